package syntax_test

import (
	"reflect"
	"slices"
	"strings"
	"testing"

	"cupel/api"
	"cupel/syntax"
)

// wrongPrograms are two that no function accepts, with the errors that it returns instead.
func wrongPrograms() map[api.Errno]api.Program {
	return map[api.Errno]api.Program{api.ErrArg: printing(api.Expr{Kind: 99}), api.ErrLong: printing(negated(19))}
}

// P1.3: the canonical text.
func TestPrintWhole(t *testing.T) {
	if s := text(t, read(t, whole)); s != whole {
		t.Errorf("whole: %s", s)
	}
	tight := strings.NewReplacer("\n", "", "\t", "", " {", "{", " }", "}", ": ", ":", " = ", "=", " + ", "+", ", ", ",").Replace(whole)
	if s := text(t, read(t, tight)); s != whole {
		t.Errorf("tight: %s", s)
	}
	for from, want := range map[string]string{
		"": "",
		"global g: int = 0; global b: bool = false; global s: small = 0s; global m: small = 7;":        "global g: int;\nglobal b: bool;\nglobal s: small;\nglobal m: small = 7s;\n",
		"global g: int = -9223372036854775807; global h: int = 9223372036854775807; global a: int[1];": "global g: int = -9223372036854775807;\nglobal h: int = 9223372036854775807;\nglobal a: int[1];\n",
		"func f(){}func g(a:bool,b:small[2]):small{}":                                                  "func f() {\n}\nfunc g(a: bool, b: small[2]): small {\n}\n",
		"func f() { if a { } else { } if a { if b { } else { trap; } } else { if c { } } }":            "func f() {\n\tif a {\n\t}\n\tif a {\n\t\tif b {\n\t\t} else {\n\t\t\ttrap;\n\t\t}\n\t} else {\n\t\tif c {\n\t\t}\n\t}\n}\n",
		"func f() { while a upto 7 { } for i in 1..2 { } }":                                            "func f() {\n\twhile a upto 7 {\n\t}\n\tfor i in 1 .. 2 {\n\t}\n}\n",
	} {
		if s := text(t, read(t, from)); s != want {
			t.Errorf("%s: %q", from, s)
		}
	}
}

// P1.3: parentheses are where the tree needs them, and nowhere else.
func TestParentheses(t *testing.T) {
	for from, want := range map[string]string{
		"(x)":                        "x",
		"-(x)":                       "-x",
		"-(-x)":                      "--x",
		"!(~(-x))":                   "!~-x",
		"-(x + 1)":                   "-(x + 1)",
		"-(x * 1)":                   "-(x * 1)",
		"(-x) * 1":                   "-x * 1",
		"-(f(x))":                    "-f(x)",
		"(x * y) + z":                "x * y + z",
		"x + (y * z)":                "x + y * z",
		"(x + y) * z":                "(x + y) * z",
		"x * (y + z)":                "x * (y + z)",
		"(x - y) - z":                "x - y - z",
		"x - (y - z)":                "x - (y - z)",
		"x + (y + z)":                "x + (y + z)",
		"x * (y / z)":                "x * (y / z)",
		"(x && y) && z":              "x && y && z",
		"x && (y && z)":              "x && (y && z)",
		"(x || y) && z":              "(x || y) && z",
		"(x && y) || z":              "x && y || z",
		"(x < y) < z":                "(x < y) < z",
		"x < (y < z)":                "x < (y < z)",
		"(x == y) != (z >= 1)":       "(x == y) != (z >= 1)",
		"(x == y) && (z >= 1)":       "x == y && z >= 1",
		"(x & y) == (z | 1)":         "x & y == z | 1",
		"(x == y) | (z == 1)":        "(x == y) | (z == 1)",
		"((x << y) & z) ^ 1":         "x << y & z ^ 1",
		"x << ((y & z) + 1)":         "x << (y & z) + 1",
		"a[(x + 1)]":                 "a[x + 1]",
		"f((x + 1), (y))":            "f(x + 1, y)",
		"int((x + 1))":               "int(x + 1)",
		"small((x)) + (1)":           "small(x) + 1",
		"(1 - (2 - 3)) * -(x + 1)":   "(1 - (2 - 3)) * -(x + 1)",
		"!(x < y) == (!x && !(y))":   "!(x < y) == (!x && !y)",
		"(((1)) + ((2s)))-((true))":  "1 + 2s - true",
		"x % (y) / z * (false) - -1": "x % y / z * false - -1",
	} {
		if s := text(t, read(t, "func main() { print "+from+"; }")); s != "func main() {\n\tprint "+want+";\n}\n" {
			t.Errorf("%s: %s", from, s)
		}
	}
}

// P1.3: a text may be longer than what Parse accepts.
func TestPrintLong(t *testing.T) {
	long, typ := strings.Repeat("n", api.MaxName), api.Type{Kind: api.TySmall, Len: api.MaxArray}
	s := slices.Repeat([]api.Stmt{{Kind: api.StLet, Name: long, Type: typ}}, 361)
	for range 19 {
		s = []api.Stmt{{Kind: api.StWhile, Exprs: []api.Expr{name(long)}, Bound: api.MaxBound, Body: s}}
	}
	p := body(s...)
	p.Globals = slices.Repeat([]api.Global{{Name: long, Type: typ}}, api.MaxGlobals)
	canonical := text(t, p)
	lines, bytes := 8+2+2*19+361, 8*len("global : small[16];")+8*16+len("func main() {}")+19*len("while  upto 1000 {}")+19*16+19*20+361*(len("let : small[16];")+16+20)
	if len(canonical) != lines+bytes || len(canonical) <= api.MaxSource || strings.Count(canonical, "\n") != lines {
		t.Errorf("%d bytes, %d lines, want %d, %d", len(canonical), strings.Count(canonical, "\n"), lines+bytes, lines)
	}
	refuse(t, canonical, 0, api.ErrLong)
}

// P1.3: spans of nodes.
func TestSpans(t *testing.T) {
	p := read(t, "global g: int; func f(a: int) { x = (1 - (2 - 3)) * -(a + 1); a[x] = f((1), g); f(2); if a { trap; } else { while b upto 3 { } } } func main() { let y: int; return; }")
	s := text(t, p)
	spans, e := syntax.Spans(p)
	if e != api.OK {
		t.Fatalf("error %d", e)
	}
	function, main, _ := strings.Cut(strings.TrimPrefix(s, "global g: int;\n"), "\nfunc main")
	want := []string{
		"[0] " + function,
		"[0 0] x = (1 - (2 - 3)) * -(a + 1);", "[0 0 2] (1 - (2 - 3)) * -(a + 1)", "[0 0 2 0] 1 - (2 - 3)", "[0 0 2 0 0] 1", "[0 0 2 0 1] 2 - 3", "[0 0 2 0 1 0] 2", "[0 0 2 0 1 1] 3", "[0 0 2 1] -(a + 1)", "[0 0 2 1 0] a + 1", "[0 0 2 1 0 0] a", "[0 0 2 1 0 1] 1",
		"[0 1] a[x] = f(1, g);", "[0 1 2] x", "[0 1 3] f(1, g)", "[0 1 3 0] 1", "[0 1 3 1] g",
		"[0 2] f(2);", "[0 2 2] f(2)", "[0 2 2 0] 2",
		"[0 3] if a {\n\t\ttrap;\n\t} else {\n\t\twhile b upto 3 {\n\t\t}\n\t}", "[0 3 2] a", "[0 3 0 0] trap;", "[0 3 1 0] while b upto 3 {\n\t\t}", "[0 3 1 0 2] b",
		"[1] func main" + strings.TrimSuffix(main, "\n"), "[1 0] let y: int;", "[1 1] return;",
	}
	for i, x := range spans {
		if got := pathText(x.Path) + " " + s[x.From:x.To]; i >= len(want) || got != want[i] {
			t.Errorf("span %d: %s", i, got)
		}
	}
	if len(spans) != len(want) {
		t.Errorf("%d spans, want %d", len(spans), len(want))
	}
	if spans, e := syntax.Spans(api.Program{}); len(spans) != 0 || e != api.OK {
		t.Errorf("no program: %d", e)
	}
}

// P1.3, R2: errors of Check.
func TestPrintErrors(t *testing.T) {
	for want, p := range wrongPrograms() {
		if s, e := syntax.Print(p); s != "" || e != want {
			t.Errorf("Print: %q, %d, want %d", s, e, want)
		}
		if s, e := syntax.Spans(p); len(s) != 0 || e != want {
			t.Errorf("Spans: %v, %d, want %d", s, e, want)
		}
	}
}

// P1.6: the canonical text is read as the program, and the text of a node, in its place, as the node.
func TestReadsBack(t *testing.T) {
	long := 0
	programs(t, func(p api.Program) {
		s := text(t, p)
		if len(s) > api.MaxSource {
			long++
			return
		}
		q := read(t, s)
		if !syntax.Same(p, q) || text(t, q) != s {
			t.Fatalf("not read back: %s", s)
		}
		spans, _ := syntax.Spans(p)
		for _, x := range spans {
			n, e := syntax.At(p, x.Path)
			if e != api.OK {
				t.Fatalf("no node at %v", x.Path)
			}
			if m, ok := reread(s[x.From:x.To], n.Kind); !ok || !reflect.DeepEqual(n, m) {
				t.Fatalf("%v is not %q", x.Path, s[x.From:x.To])
			}
		}
	})
	if long > 20 {
		t.Errorf("%d long texts", long)
	}
}

// reread reads the text of a node.
func reread(text string, kind int) (api.Node, bool) {
	path := []int{0}
	switch kind {
	case api.NdStmt:
		text, path = "func f() { "+text+" }", []int{0, 0}
	case api.NdExpr:
		text, path = "func f() { print "+text+"; }", []int{0, 0, 2}
	}
	p, _, e := syntax.Parse(text)
	if e != api.OK {
		return api.Node{}, false
	}
	n, e := syntax.At(p, path)
	return n, e == api.OK
}
