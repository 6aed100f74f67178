package gen_test

import (
	"fmt"
	"strings"
	"testing"

	"cupel/api"
	"cupel/defined"
	"cupel/gen"
	"cupel/syntax"
	"cupel/types"
)

// guards are programs, and what becomes of them; "": nothing is changed.
type guards []struct{ text, want string }

func (list guards) check(t *testing.T) {
	t.Helper()
	for _, c := range list {
		if c.want == "" {
			c.want = c.text
		}
		p, e := gen.Guard(read(t, c.text))
		if e != api.OK || !syntax.Same(p, read(t, c.want)) {
			t.Errorf("%s\nerror %d\n%s\nwant\n%s", c.text, e, text(p), c.want)
		}
	}
}

// inMain makes programs of statements.
func (list guards) inMain() guards {
	out := append(guards{}, list...)
	for i := range out {
		out[i].text = "func main() { " + out[i].text + " }"
		if out[i].want != "" {
			out[i].want = "func main() { " + out[i].want + " }"
		}
	}
	return out
}

// P6.3: the examples of the chapter.
func TestGuardExamples(t *testing.T) {
	guards{
		{"func main() { let x: int = 70; print 1 << x; }", "func main() { let x: int = 70; print 1 << (x & 63); }"},
		{"func f(n: int): int { return 5 / n; } func main() { print f(-1); }", ""},
	}.check(t)
}

// P6.3: each operator that may be undefined, of int and of small, and none else.
func TestGuardedOperators(t *testing.T) {
	const all = "let n: int = 1; while true upto 70 { n = n * 3; } let s: small = small(n); "
	list := guards{
		{"print n << n;", "print n << (n & 63);"},
		{"print n >> n;", "print n >> (n & 63);"},
		{"print n / n;", "print n / (n & 63 | 1);"},
		{"print n % n;", "print n % (n & 63 | 1);"},
		{"print s << s;", "print s << (s & 7s);"},
		{"print s >> s;", "print s >> (s & 7s);"},
		{"print s / s; print s % s; print s / 0s; print s % 255s;", ""},
		{"print n * n + n - n & n ^ n | n; print -n; print ~n; print small(n);", ""},
		{"print n / 0; print n % 0; print 1 / n; print 1 % n; print -9223372036854775807 / n;", ""},
		{"print n / -1;", "print n / (-1 & 63 | 1);"},
		{"print n % -1;", "print n % (-1 & 63 | 1);"},
		{"print n / -2; print n % 2; print n << 0; print n << 63; print s << 7s; print s >> 0s;", ""},
		{"print n << 64;", "print n << (64 & 63);"},
		{"print n >> -1;", "print n >> (-1 & 63);"},
		{"print s << 8s;", "print s << (8s & 7s);"},
		{"print n << (n + 1 | 2);", "print n << ((n + 1 | 2) & 63);"},
		{"print n / (n & n);", "print n / (n & n & 63 | 1);"},
		{"print n << (n & 63); print n / (n & 63 | 1); print s << (s & 7s);", ""},
	}
	for i := range list {
		list[i].text = all + list[i].text
		if list[i].want != "" {
			list[i].want = all + list[i].want
		}
	}
	list.inMain().check(t)
}

// P6.3: operators wherever they stand, also several of them.
func TestGuardedPlaces(t *testing.T) {
	guards{
		{"for i in 0 .. 65 { print 1 << i; print 2 << i; }", "for i in 0 .. 65 { print 1 << (i & 63); print 2 << (i & 63); }"},
		{"print 1 << 64 << 65;", "print 1 << (64 & 63) << (65 & 63);"},
		{"print 1 << (2 << 64);", "print 1 << (2 << (64 & 63));"},
		{"print 1 << (70 << 64);", "print 1 << ((70 << (64 & 63)) & 63);"},
		{"for i in 0 .. 65 { print i << (i << i); }", "for i in 0 .. 65 { print i << ((i << (i & 63)) & 63); }"},
		{"let a: int[2]; a[1 << 64] = 3 << 65;", "let a: int[2]; a[1 << (64 & 63)] = 3 << (65 & 63);"},
		{"if 1 << 64 < 3 { print 1; } else { print 2; }", "if 1 << (64 & 63) < 3 { print 1; } else { print 2; }"},
		{"while 1 << 64 == 3 upto 2 { print 1; }", "while 1 << (64 & 63) == 3 upto 2 { print 1; }"},
		{"for i in 0 .. 1 << 64 { print 1; }", "for i in 0 .. 1 << (64 & 63) { print 1; }"},
		{"if true { print 1; } else { print 1 << 64; }", ""},
		{"if false && 1 << 64 == 1 { print 1; }", ""},
		{"if true && 1 << 64 == 1 { print 1; }", "if true && 1 << (64 & 63) == 1 { print 1; }"},
		{"trap; print 1 << 64;", ""},
		{"print 1 / 0; print 1 << 64;", ""},
		{"for i in 0 .. 3 { if i == 1 { continue; } print 1 << i * 64; }", "for i in 0 .. 3 { if i == 1 { continue; } print 1 << (i * 64 & 63); }"},
	}.inMain().check(t)
	guards{
		{"func f(n: int) { print 1 << n; } func main() { f(1); f(64); f(2); }", "func f(n: int) { print 1 << (n & 63); } func main() { f(1); f(64); f(2); }"},
		{"func f(n: int): int { return 1 << n; } func main() { print 1; }", ""},
		{"func f(n: int): int { return 1 << n; } func main() { print f(f(7)); }", "func f(n: int): int { return 1 << (n & 63); } func main() { print f(f(7)); }"},
		{"global g: int = 64; func main() { f(); print 3 >> g; } func f() { g = g + 1; print 3 << g; }", "global g: int = 64; func main() { f(); print 3 >> (g & 63); } func f() { g = g + 1; print 3 << (g & 63); }"},
	}.check(t)
}

// P6.3: one operator is guarded at a time, the first one in the order of nodes: what its guard changes may spare others, or show others that were not reached.
func TestGuardedOneByOne(t *testing.T) {
	guards{
		{"print 1 << 64; print 2 << 65; print 3 >> 66;", "print 1 << (64 & 63); print 2 << (65 & 63); print 3 >> (66 & 63);"},
		{
			"let n: int = 1; while true upto 70 { n = n * 3; } let q: int = n / -1; print n / (q + 4611686018427387903);",
			"let n: int = 1; while true upto 70 { n = n * 3; } let q: int = n / (-1 & 63 | 1); print n / (q + 4611686018427387903);",
		},
		{
			"let n: int = 1; while true upto 70 { n = n * 3; } let q: int = 4611686018427387904 / n; for i in 0 .. 9 { print n / (q + 4611686018427387904); q = n % -1; }",
			"let n: int = 1; while true upto 70 { n = n * 3; } let q: int = 4611686018427387904 / n; for i in 0 .. 9 { print n / (q + 4611686018427387904 & 63 | 1); q = n % (-1 & 63 | 1); }",
		},
	}.inMain().check(t)
	guards{{
		"func f(n: int, q: int) { print n / (q + 4611686018427387903); } func main() { let n: int = 1; while true upto 70 { n = n * 3; } f(n, n / -1); }",
		"func f(n: int, q: int) { print n / (q + 4611686018427387903 & 63 | 1); } func main() { let n: int = 1; while true upto 70 { n = n * 3; } f(n, n / (-1 & 63 | 1)); }",
	}}.check(t)
}

// errorOf is the error of Guard, with which there is no program.
func errorOf(t *testing.T, p api.Program) api.Errno {
	t.Helper()
	q, e := gen.Guard(p)
	if (e == api.OK) == isNothing(q) {
		t.Errorf("%s\nerror %d, but\n%s", text(p), e, text(q))
	}
	return e
}

// P6.3: ErrLong if a guard makes the program too large, or too deep.
func TestGuardTooLarge(t *testing.T) {
	for _, c := range []struct {
		print string
		most  int // nodes, so that the guard still fits
	}{{"print 1 << i;", 398}, {"print (1 << 63) / (i - 2);", 396}, {"print 1s >> small(i); ", 398}, {"print 1 << i; print 2 << i;", 396}} {
		for nodes := c.most - 1; nodes <= c.most+1; nodes++ {
			all := "func main() { for i in 0 .. 65 { " + c.print + " } "
			p := read(t, all+strings.Repeat("return; ", nodes-syntax.Size(read(t, all+"}")))+"}")
			want := api.OK
			if nodes > c.most {
				want = api.ErrLong
			}
			if e := errorOf(t, p); e != want || syntax.Size(p) != nodes {
				t.Errorf("%s, %d nodes: error %d, want %d", c.print, syntax.Size(p), e, want)
			}
		}
	}
	for _, c := range []struct {
		shift string
		most  int // signs, so that the guard still fits
	}{{"(1 << i)", 15}, {"(i << 5 << (i << 5))", 14}, {"((1 << 63) / (i - 2))", 13}} {
		for signs := c.most - 1; signs <= c.most+1; signs++ {
			want := api.OK
			if signs > c.most {
				want = api.ErrLong
			}
			all := "func main() { for i in 0 .. 65 { print " + strings.Repeat("-", signs) + c.shift + "; } }"
			if e := errorOf(t, read(t, all)); e != want {
				t.Errorf("%s: error %d, want %d", all, e, want)
			}
		}
	}
}

// long is a program with statements before many visits: 1 + 9 * 2208 of main, and of what it calls.
func long(before string, fill int) string {
	leaf := "func leaf() { " + strings.Repeat("print 1; ", 30) + "} "
	big := "func big() { " + strings.Repeat("leaf(); ", 35) + "} "
	return leaf + big + "func main() { " + before + strings.Repeat("big(); ", 9) + strings.Repeat("print 1; ", fill) + "}"
}

// P6.3: ErrLong if Prove returns it, for the program or for one on the way.
func TestGuardTooLong(t *testing.T) {
	const once = "for i in 0 .. 65 { print 1 << i; } "
	proves := func(fill int) bool {
		_, e := defined.Prove(read(t, long(once, fill)))
		return e == api.OK
	}
	fill := 0
	for proves(fill + 1) {
		fill++
	}
	for f, want := range map[int]api.Errno{fill + 1: api.ErrLong, fill: api.ErrLong, fill - 1: api.OK, fill - 2: api.OK} {
		if e := errorOf(t, read(t, long(once, f))); e != want {
			t.Errorf("%d prints of %d: error %d, want %d", f, fill, e, want)
		}
	}
	for dead, want := range map[string]api.Errno{"trap; ": api.OK, "print 1 / 0; print 1 << 64; ": api.OK, "print 1 << 64; ": api.ErrLong} {
		if e := errorOf(t, read(t, long(dead, fill+20))); e != want {
			t.Errorf("%s: error %d, want %d", dead, e, want)
		}
	}
}

// P6.3, R2: the errors of defined.Prove, in its order.
func TestGuardErrors(t *testing.T) {
	endless := make([]api.Stmt, 1)
	endless[0] = api.Stmt{Kind: api.StWhile, Bound: 3, Exprs: []api.Expr{{Kind: api.ExBool, Int: 1}}, Body: endless}
	args := make([]api.Expr, 1)
	args[0] = api.Expr{Kind: api.ExUnary, Op: api.UnNeg, Args: args}
	inMain := func(list ...api.Stmt) api.Program { return api.Program{Funcs: []api.Func{{Name: "main", Body: list}}} }
	shift := api.Expr{Kind: api.ExBinary, Op: api.BiShl, Args: []api.Expr{{Kind: api.ExInt, Int: 1}, {Kind: api.ExInt, Int: 64}}}
	undefined := api.Stmt{Kind: api.StPrint, Exprs: []api.Expr{shift}}
	for i, c := range []struct {
		p    api.Program
		want api.Errno
	}{
		{api.Program{}, api.ErrDown},
		{inMain(), api.OK},
		{inMain(undefined), api.OK},
		{inMain(endless...), api.ErrLong},
		{inMain(undefined, api.Stmt{Kind: api.StPrint, Exprs: args}), api.ErrLong},
		{inMain(make([]api.Stmt, 400)...), api.ErrLong},
		{inMain(undefined, api.Stmt{}), api.ErrArg},
		{inMain(undefined, api.Stmt{Kind: api.StPrint}), api.ErrArg},
		{api.Program{Globals: make([]api.Global, 9), Funcs: inMain(undefined).Funcs}, api.ErrArg},
		{inMain(undefined, api.Stmt{Kind: api.StBreak}), api.ErrDown},
		{inMain(undefined, api.Stmt{Kind: api.StSet, Name: "x", Exprs: []api.Expr{shift}}), api.ErrDown},
		{api.Program{Funcs: []api.Func{{Name: "f", Body: []api.Stmt{undefined}}}}, api.ErrDown},
	} {
		_, want := defined.Prove(c.p)
		if e := errorOf(t, c.p); e != c.want || e != want {
			t.Errorf("program %d: error %d, want %d, of Prove %d", i, e, c.want, want)
		}
	}
}

// P6.3, P6.4: many programs that are not defined are guarded as the model does it; the result has no flaw, is defined, and is guarded already.
func TestGuardModel(t *testing.T) {
	seen := map[string]int{}
	plans(4000, func(x api.Plan) {
		p, _, e := syntax.Parse(newModel(x, seen).program())
		if e != api.OK {
			return
		}
		want, f := guarded(p)
		q, e := gen.Guard(p)
		if e != f || e == api.OK && !syntax.Same(q, want) {
			t.Fatalf("%s\nerror %d\n%s\nwant error %d\n%s", text(p), e, text(q), f, text(want))
		}
		if e != api.OK {
			return
		}
		flaw, _ := types.Check(q)
		proof, _ := defined.Prove(q)
		again, e := gen.Guard(q)
		if flaw.Code != 0 || !proof.Defined || e != api.OK || !syntax.Same(q, again) {
			t.Errorf("%s\nguarded\n%s\nflaw %v, proof %v, error %d\n%s", text(p), text(q), flaw, proof, e, text(again))
		}
		proof, _ = defined.Prove(p)
		if seen[fmt.Sprint("defined ", proof.Defined)]++; proof.Defined && !syntax.Same(p, q) {
			t.Errorf("%s\nis defined, but became\n%s", text(p), text(q))
		}
	})
	if seen["defined true"] < 500 || seen["defined false"] < 500 {
		t.Errorf("%d defined, %d not", seen["defined true"], seen["defined false"])
	}
}
