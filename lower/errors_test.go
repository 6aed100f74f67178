package lower_test

import (
	"fmt"
	"math"
	"reflect"
	"strings"
	"testing"

	"cupel/api"
	"cupel/ir"
	"cupel/lower"
	"cupel/syntax"
	"cupel/types"
)

// expectError checks that Lower returns an error, and nothing else with it.
func expectError(t *testing.T, p api.Program, x api.Limit, want api.Errno) {
	t.Helper()
	m, e := lower.Lower(p, x)
	if e != want || e != api.OK && !reflect.ValueOf(m).IsZero() {
		t.Errorf("faults %v, error %d, want %d\n%.300s", x.Faults, e, want, text(p))
	}
}

// longMain is lowered to more blocks than allowed.
var longMain = "func main() { " + strings.Repeat("if true { } ", 30) + "}"

// P9.1: the error of syntax.Check comes first.
func TestWrongPrograms(t *testing.T) {
	for _, p := range wrongPrograms() {
		want := syntax.Check(p)
		if want == api.OK {
			t.Fatalf("a program is not wrong: %.300s", text(p))
		}
		expectError(t, p, with(), want)
		expectError(t, p, with(2, 1), want)
	}
}

// P9.1: then ErrDown for a flaw, whichever it is.
func TestFlaws(t *testing.T) {
	for code, s := range map[int]string{
		api.FlName:   "func main() { print x; }",
		api.FlAgain:  "func main() { let x: int; let x: int; }",
		api.FlType:   "func main() { print 1 + 1s; }",
		api.FlArgs:   "func f(x: int) { } func main() { f(); }",
		api.FlResult: "func f() { return 1; } func main() { }",
		api.FlLoop:   "func main() { break; }",
		api.FlFixed:  "func main() { for i in 0 .. 3 { i = 2; } }",
		api.FlCycle:  "func f() { main(); } func main() { f(); }",
		api.FlShared: "global a: int[2]; func f(b: int[2]) { a[0] = b[0]; } func main() { f(a); }",
		api.FlUnset:  "func main() { let x: int; print x; }",
		api.FlReturn: "func f(): int { } func main() { }",
		api.FlMain:   "func f() { }",
	} {
		p := read(t, s)
		if flaw, _ := types.Check(p); flaw.Code != code {
			t.Fatalf("flaw %d: %v", code, flaw)
		}
		expectError(t, p, with(), api.ErrDown)
		expectError(t, p, with(2, 1), api.ErrDown)
	}
	expectError(t, api.Program{}, with(), api.ErrDown)
	expectError(t, read(t, strings.Replace(longMain, "}", "print x; }", 1)), with(), api.ErrDown)
}

// P9.1: then ErrArg for faults that are no ascending numbers from 1 to 24, each once.
func TestWrongFaults(t *testing.T) {
	for _, faults := range [][]int{{0}, {25}, {-1}, {1, 1}, {2, 1}, {0, 1}, {1, 25}, {24, 24}, {1, 2, 3, 3}, {1, 3, 2}, {5, 4, 6}, {math.MinInt}, {math.MaxInt}, {1, math.MaxInt}, {16, math.MinInt}} {
		expectError(t, read(t, "func main() { }"), with(faults...), api.ErrArg)
		expectError(t, read(t, longMain), with(faults...), api.ErrArg)
	}
	var all []int
	for fault := 1; fault <= api.MaxFaults; fault++ {
		all = append(all, fault)
		expectError(t, read(t, "func main() { }"), with(fault), api.OK)
		expectError(t, read(t, "func main() { }"), with(all...), api.OK)
	}
	expectError(t, read(t, "func main() { }"), with([]int{}...), api.OK)
	expectError(t, read(t, "func main() { }"), with(1, 24), api.OK)
}

// P9.1: Most makes no difference.
func TestMost(t *testing.T) {
	p := read(t, everything)
	want := lowered(t, p, api.FtLower2)
	for _, most := range []int{-1, 0, 1, 5, 4000} {
		m, e := lower.Lower(p, api.Limit{Most: most, Faults: []int{api.FtLower2}})
		if s, _ := ir.Print(m); s != want || e != api.OK {
			t.Errorf("Most %d: error %d\n%s", most, e, s)
		}
	}
}

// numbered repeats a text with numbers, from 0 on, for each %d.
func numbered(text string, times int) string {
	var all strings.Builder
	for i := range times {
		all.WriteString(strings.ReplaceAll(text, "%d", fmt.Sprint(i)))
	}
	return all.String()
}

// P9.1: ErrLong if a function, whichever it is, has more blocks, instructions, registers or arrays than allowed; as many as allowed are none too many.
func TestLong(t *testing.T) {
	for _, c := range []struct{ what, least, more string }{
		{"blocks, by if", numbered("if true { } ", 29) + "trap;", "trap;"},
		{"blocks, by for", numbered("for i in 0 .. 1 { } ", 14) + "trap; trap; trap;", "return;"},
		{"instructions", numbered("let a%d: int[16]; ", 20) + numbered("print 1; ", 80), "print 1;"},
		{"instructions, in two", "if true { " + numbered("let a%d: int[16]; ", 20) + "} else {" + numbered("print 1; ", 80) + "}", "let x: int;"},
		{"registers", numbered("let x%d: int; ", 300), "let y: int;"},
		{"registers of results", numbered("let x%d: int; ", 249) + numbered("print -----------------%d; ", 3), "print ~1;"},
		{"arrays", numbered("let a%d: int[1]; ", 20), "let b: int[2];"},
	} {
		for _, around := range []string{"func main() { %s }", "func f() { %s } func main() { }", "func main() { } func f(): int { trap; } func g() { %s }"} {
			_, e := lower.Lower(read(t, fmt.Sprintf(around, c.least)), with())
			m, long := lower.Lower(read(t, fmt.Sprintf(around, c.least+" "+c.more)), with())
			if e != api.OK || long != api.ErrLong || !ir.Same(m, api.Module{}) {
				t.Errorf("%s, %q: error %d, with one more %d", c.what, around, e, long)
			}
		}
	}
}

// P9.1: what a function is made to return at its end counts as well.
func TestLongResult(t *testing.T) {
	const blocks = "func f(): int { %s return 1; } func main() { }"
	expectError(t, read(t, fmt.Sprintf(blocks, numbered("if true { } ", 29))), with(), api.OK)
	expectError(t, read(t, fmt.Sprintf(blocks, numbered("if true { } ", 29)+"trap;")), with(), api.ErrLong)
}

// P9.1: all arrays of a function count: parameters, those of the module that it names, its own.
func TestLongArrays(t *testing.T) {
	globals := numbered("global g%d: int[1]; ", 8)
	use := numbered("g%d[0] = 1; ", 8)
	params := "a: int[1], b: int[1], c: int[1], d: int[1]"
	f := func(locals int) api.Program {
		return read(t, globals+"func f("+params+") { "+use+numbered("let x%d: int[1]; ", locals)+"} func main() { }")
	}
	expectError(t, f(8), with(), api.OK)
	expectError(t, f(9), with(), api.ErrLong)
}

// P9.1: what is said of a function is not said of all of them together.
func TestLongTogether(t *testing.T) {
	var all strings.Builder
	for i := range 7 {
		fmt.Fprintf(&all, "func f%d() { %s %s } ", i, numbered("let a%d: int[16]; ", 20), numbered("if true { } ", 14))
	}
	expectError(t, read(t, all.String()+"func main() { f0(); }"), with(), api.OK)
}

// P9.1: a fault may make a module long enough to be allowed.
func TestLongFaults(t *testing.T) {
	s := "func main() { " + numbered("let a%d: int[16]; ", 20) + numbered("a%d[0] = 1; ", 20) + numbered("a%d[1] = 1; ", 20) + "print 2; }"
	expectError(t, read(t, s), with(), api.ErrLong)
	expectError(t, read(t, s), with(api.FtLower1, api.FtLower2), api.ErrLong)
	expectError(t, read(t, s), with(api.FtLower3), api.OK)
}
