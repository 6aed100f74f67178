package types_test

import (
	"fmt"
	"math"
	"testing"

	"cupel/api"
	"cupel/types"
)

// P2.4: what functions call, and the order in which those that are called come first.
func TestCalls(t *testing.T) {
	for _, c := range []struct{ text, calls, order string }{
		{"func main() { }", "[[]]", "[0]"},
		{"func main() { } func f() { } func g() { }", "[[] [] []]", "[0 1 2]"},
		{"func main() { f(); } func f() { g(); } func g() { }", "[[1] [2] []]", "[2 1 0]"},
		{"func main() { h(); g(); f(); g(); } func f() { } func g() { } func h() { }", "[[1 2 3] [] [] []]", "[1 2 3 0]"},
		{"func f() { g(); } func main() { f(); } func g() { }", "[[2] [0] []]", "[2 0 1]"},
		{"func f() { h(); g(); } func g() { k(); } func h() { k(); } func k() { } func main() { }", "[[1 2] [3] [3] [] []]", "[3 1 2 0 4]"},
		{"func f() { } func main() { g(); f(); } func g() { f(); }", "[[] [0 2] [0]]", "[0 2 1]"},
		{"func main() { a(); } func a() { c(); b(); } func b() { c(); d(); } func c() { } func d() { c(); }", "[[1] [2 3] [3 4] [] [3]]", "[3 4 2 1 0]"},
		{"func f(x: int): int { return x; } func main() { if f(f(1)) > 0 { } else { print f2(f(2)); } for i in 0 .. f3() { } } func f2(x: int): int { return x; } func f3(): int { return 1; }", "[[] [0 2 3] [] []]", "[0 2 3 1]"},
		{"func f(): int { return 0; } func g(): int { return 1; } func h(): bool { return true; } func main() { let a: int[2]; a[g()] = f(); while h() upto 1 { g(); } }", "[[] [] [] [0 1 2]]", "[0 1 2 3]"},
		{"func main() { if false { g(); } return; f(); } func f() { } func g() { }", "[[1 2] [] []]", "[1 2 0]"},
		{"func f(f: int): int { let main: int = f; return main; } func main() { print 1; }", "[[] []]", "[0 1]"},
		{"func a() { } func b() { a(); } func c() { b(); } func d() { c(); } func e() { d(); } func f() { e(); } func g() { f(); } func main() { g(); a(); }", "[[] [0] [1] [2] [3] [4] [5] [0 6]]", "[0 1 2 3 4 5 6 7]"},
		{"func main() { a(); } func a() { b(); } func b() { c(); } func c() { d(); } func d() { e(); } func e() { f(); } func f() { g(); } func g() { }", "[[1] [2] [3] [4] [5] [6] [7] []]", "[7 6 5 4 3 2 1 0]"},
	} {
		calls, order, e := types.Calls(read(t, c.text))
		if e != api.OK || fmt.Sprint(calls) != c.calls || fmt.Sprint(order) != c.order {
			t.Errorf("%s\nCalls: %v, %v, %d, want %s, %s", c.text, calls, order, e, c.calls, c.order)
		}
	}
}

// P2.5: what functions read and write. The globals are g, h, a and b, the last two arrays.
func TestUses(t *testing.T) {
	const around = "global g: int; global h: int; global a: int[2]; global b: int[2]; func main() { } func rg(): int { return g; } func wh() { h = 1; } func ab(x: int[2]): int { x[0] = 1; return 1; } func all() { print rg(); wh(); print ab(a); } func f(p: int[2], q: int): int { %s return 0; }"
	for _, c := range []struct{ body, reads, writes string }{
		{"", "[]", "[]"},
		{"print g;", "[0]", "[]"},
		{"g = 1;", "[]", "[0]"},
		{"g = g;", "[0]", "[0]"},
		{"print a[0];", "[2]", "[]"},
		{"a[0] = 1;", "[]", "[2]"},
		{"a[h] = g;", "[0 1]", "[2]"},
		{"b[a[1]] = 1;", "[2]", "[3]"},
		{"print ab(b);", "[3]", "[3]"},
		{"ab(a); ab(b);", "[2 3]", "[2 3]"},
		{"p[q] = p[q]; ab(p);", "[]", "[]"},
		{"print rg();", "[0]", "[]"},
		{"wh();", "[]", "[1]"},
		{"all();", "[0 2]", "[1 2]"},
		{"all(); print b[1]; g = 2;", "[0 2 3]", "[0 1 2]"},
		{"if false { print h; } else { g = 1; }", "[1]", "[0]"},
		{"while h > 0 upto 1 { g = h; }", "[1]", "[0]"},
		{"for i in g .. h { b[i] = 1; }", "[0 1]", "[3]"},
		{"return -(h + 1); g = 1;", "[1]", "[0]"},
		{"let x: int = h; x = g; if x == int(small(b[0])) { }", "[0 1 3]", "[]"},
		{"let c: int[2]; c[0] = 1; print ab(c);", "[]", "[]"},
		{"for wh in 0 .. 1 { let rg: int = wh; print rg; }", "[]", "[]"},
	} {
		text := fmt.Sprintf(around, c.body)
		reads, writes, e := types.Uses(read(t, text), 5)
		if e != api.OK || fmt.Sprint(reads) != c.reads || fmt.Sprint(writes) != c.writes {
			t.Errorf("%s: %v, %v, %d, want %s, %s", c.body, reads, writes, e, c.reads, c.writes)
		}
	}
}

// P2.5: through many functions, each of which uses a global of its own; one has the name of a global.
func TestUsesThroughAll(t *testing.T) {
	p := read(t, "global g0: int; global g1: int; global g2: int; global g3: int; global g4: int; global g5: int; global g6: int; global g7: int; func g1() { } func f7() { g7 = 1; } func f5() { f6(); g5 = 1; } func f6() { f7(); print g6; } func f2() { f3(); print g2; } func f3() { f4(); g3 = 1; } func f4() { f5(); print g4; } func main() { g1(); f2(); g0 = g0; }")
	for f, want := range []string{"[] []", "[] [7]", "[6] [5 7]", "[6] [7]", "[2 4 6] [3 5 7]", "[4 6] [3 5 7]", "[4 6] [5 7]", "[0 2 4 6] [0 3 5 7]"} {
		reads, writes, e := types.Uses(p, f)
		if got := fmt.Sprint(reads, " ", writes); e != api.OK || got != want {
			t.Errorf("Uses %d: %s, %d, want %s", f, got, e, want)
		}
	}
}

// P2.5: indices of no function.
func TestUsesOfNone(t *testing.T) {
	p := read(t, "global g: int; func main() { g = g; } func f() { }")
	for _, f := range []int{-1, 2, 8, math.MinInt, math.MaxInt} {
		if reads, writes, e := types.Uses(p, f); e != api.ErrNone || len(reads)+len(writes) != 0 {
			t.Errorf("Uses %d: %v, %v, %d", f, reads, writes, e)
		}
	}
}
