package sem_test

import (
	"fmt"
	"slices"
	"strings"
	"testing"

	"cupel/api"
	"cupel/sem"
)

// P3.1: the examples of the chapter.
func TestExamples(t *testing.T) {
	runs{
		{"func main() { print 7 / 2; print -7 % 2; print 200s + 100s; print -9223372036854775807 - 2; }", "3 -1 44 9223372036854775807 done"},
		{"func main() { print 1; print 1 / 0; }", "1 divide [0 1 2]"},
		{"func main() { print 1 << 64; }", "shift [0 0 2]"},
		{"func main() { let n: int = 0; while true upto 3 { n = n + 1; } print n; }", "3 done"},
		{"func f(a: int[2]) { a[1] = 5; } func main() { let b: int[2]; f(b); print b[1]; let i: int = 2; b[i] = 1 / 0; }", "5 divide [1 4 3]"},
	}.check(t)
	b, used, place, e := sem.Run(read(t, "func main() { print 1; }"), 1)
	if got := show(b, place); got != "steps [0 0 2]" || used != 1 || e != api.OK {
		t.Errorf("1 step: %s, %d steps, error %d", got, used, e)
	}
}

// P3.1: expressions of each kind, with operands of each kind.
func TestExpressions(t *testing.T) {
	runs{
		{"print 5; print 250s; print true; print false;", "5 250 1 0 done"},
		{"print 9223372036854775807; print -9223372036854775807 - 1;", "9223372036854775807 -9223372036854775808 done"},
		{"print -5; print -5s; print -0s; print ~5; print ~5s; print !true; print !false; print --5;", "-5 251 0 -6 250 0 1 5 done"},
		{"print -(-9223372036854775807 - 1);", "-9223372036854775808 done"},
		{"print 3 * 7; print 30s * 10s; print 9223372036854775807 * 2;", "21 44 -2 done"},
		{"print -7 / 2; print 7 / -2; print -7 / -2; print 255s / 2s;", "-3 -3 3 127 done"},
		{"print -7 % 2; print 7 % -2; print -7 % -2; print 255s % 16s;", "-1 1 -1 15 done"},
		{"print 2 + 3; print 255s + 1s; print 9223372036854775807 + 1;", "5 0 -9223372036854775808 done"},
		{"print 2 - 3; print 2s - 3s;", "-1 255 done"},
		{"print 1 << 63; print 3 << 62; print 129s << 1s; print 1s << 7s; print 1 << 0;", "-9223372036854775808 -4611686018427387904 2 128 1 done"},
		{"print -8 >> 1; print -1 >> 63; print 8 >> 3; print 200s >> 7s; print 8s >> 0s;", "-4 -1 1 1 8 done"},
		{"print 12 & 10; print -1 & 5; print 12s & 10s; print 12 ^ 10; print -1 ^ 5; print 12s ^ 10s; print 12 | 10; print -8 | 5; print 12s | 10s;", "8 5 8 6 -6 6 14 -3 14 done"},
		{"print 1 == 1; print 1 == 2; print 1s == 1s; print true == true; print true == false;", "1 0 1 1 0 done"},
		{"print 1 != 1; print 1 != 2; print 1s != 1s; print true != true; print true != false;", "0 1 0 0 1 done"},
		{"print 1 < 2; print 2 < 2; print -1 < 0; print 200s < 100s; print 1 <= 1; print 2 <= 1; print 100s <= 200s;", "1 0 1 0 1 0 1 done"},
		{"print 2 > 1; print 2 > 2; print -1 > 0; print 200s > 100s; print 1 >= 1; print 1 >= 2; print 100s >= 200s;", "1 0 0 1 1 0 0 done"},
		{"print true && true; print true && false; print false && true; print false || false; print false || true; print true || false;", "1 0 0 0 1 1 done"},
		{"print int(true); print int(false); print int(255s); print int(1 < 2) + 1;", "1 0 255 2 done"},
		{"print small(255); print small(256); print small(-1); print small(-9223372036854775807 - 1); print small(300) + 250s;", "255 0 255 0 38 done"},
		{"print int(250s) + 10; print 250s + 10s; print int(250s + 10s);", "260 4 4 done"},
		{"print (1 < 2) == (3s > 2s); print !(1 == 2) && 2s >= 2s;", "1 1 done"},
		{"print 1 + 2 * 3 - 8 / 4 % 3 << 1;", "10 done"},
	}.inMain("").check(t)
}

// P3.1: what traps, and what is undefined, and where.
func TestEnds(t *testing.T) {
	runs{
		{"print 1 / 0;", "divide [0 0 2]"},
		{"print 1 % 0;", "divide [0 0 2]"},
		{"print 1s / 0s;", "divide [0 0 2]"},
		{"print 1s % 0s;", "divide [0 0 2]"},
		{"print 1 + (2 - 3 / (1 - 1));", "divide [0 0 2 1 1]"},
		{"let x: int = -9223372036854775807 - 1; print x / 1; print x / -1;", "-9223372036854775808 least [0 2 2]"},
		{"let x: int = -9223372036854775807 - 1; print x % 1; print x % -1;", "0 least [0 2 2]"},
		{"print 5 / -1; print 5 % -1; print -9223372036854775807 / -1;", "-5 0 9223372036854775807 done"},
		{"print 1 << 63; print 1 << 64;", "-9223372036854775808 shift [0 1 2]"},
		{"print 1 << -1;", "shift [0 0 2]"},
		{"print 1 >> 63; print 1 >> 64;", "0 shift [0 1 2]"},
		{"print 1 >> -1;", "shift [0 0 2]"},
		{"print 1s << 7s; print 1s << 8s;", "128 shift [0 1 2]"},
		{"print 1s >> 7s; print 1s >> 8s;", "0 shift [0 1 2]"},
		{"print 1; trap; print 2;", "1 stated [0 1]"},
		{"if false { } else { print 1; trap; }", "1 stated [0 0 1 1]"},
		{"while true upto 9 { trap; }", "stated [0 0 0 0]"},
		{"let a: int[2]; print a[0]; print a[1]; print a[2];", "0 0 index [0 3 2]"},
		{"let a: int[2]; print a[-1];", "index [0 1 2]"},
		{"let a: bool; let b: small[1]; print b[0]; print b[9223372036854775807];", "0 index [0 3 2]"},
		{"let a: int[2]; a[0] = 1; a[1] = 2; a[2] = 3;", "index [0 3]"},
		{"let a: int[2]; a[-1] = 3;", "index [0 1]"},
		{"let a: int[2]; print a[a[5]];", "index [0 1 2 0]"},
		{"let a: int[2]; a[a[5]] = 1;", "index [0 1 2]"},
		{"let a: int[2]; a[7] = 1 / 0;", "divide [0 1 3]"},
		{"let a: int[2]; a[1 / 0] = 1 << 64;", "divide [0 1 2]"},
		{"print -(1 / 0);", "divide [0 0 2 0]"},
		{"print int(small(1 / 0));", "divide [0 0 2 0 0]"},
		{"if 1 / 0 == 1 { print 1; } print 2;", "divide [0 0 2 0]"},
		{"while 1 / 0 == 1 upto 3 { print 1; }", "divide [0 0 2 0]"},
		{"for i in 1 / 0 .. 2 { print 1; }", "divide [0 0 2]"},
		{"for i in 2 .. 1 / 0 { print 1; }", "divide [0 0 3]"},
		{"let x: int = 1 / 0;", "divide [0 0 2]"},
		{"let x: int; x = 1 / 0;", "divide [0 1 2]"},
		{"print 3; return; print 4;", "3 done"},
		{"return; print 4;", "done"},
		{"", "done"},
		{"print 3; f(1); print 4;", "3 2 divide [1 1 0 0 2]"},
		{"print 3; print 2 * g(0);", "3 divide [2 0 2]"},
		{"f(1 / 0);", "divide [0 0 2 0]"},
		{"print g(1 / 0);", "divide [0 0 2 0]"},
	}.inMain("func f(x: int) { print 2; if true { print x / 0; } print 5; } func g(x: int): int { return 1 / x; }").check(t)
}

// P3.1: arguments and operands from left to right, the second one of && and || only where it is needed.
func TestOrder(t *testing.T) {
	runs{
		{"print p(1) - p(2);", "1 2 -1 done"},
		{"print s(p(1), p(2));", "1 2 -1 done"},
		{"print p(1) / p(0) + p(5);", "1 0 divide [0 0 2 0]"},
		{"let a: int[3]; a[p(1)] = p(2); print a[1];", "1 2 2 done"},
		{"let a: int[3]; a[p(5)] = p(2);", "5 2 index [0 1]"},
		{"let a: int[3]; a[0] = 9; print a[p(0)] + p(1);", "0 1 10 done"},
		{"for i in p(1) .. p(3) { print i; }", "1 3 1 2 done"},
		{"print b(1, true) && b(2, true);", "1 2 1 done"},
		{"print b(1, true) && b(2, false);", "1 2 0 done"},
		{"print b(1, false) && b(2, true);", "1 0 done"},
		{"print b(1, true) || b(2, false);", "1 1 done"},
		{"print b(1, false) || b(2, true);", "1 2 1 done"},
		{"print b(1, false) || b(2, false);", "1 2 0 done"},
		{"print false && 1 / 0 == 1; print true || 1 / 0 == 1; print true && 1 / 0 == 1;", "0 1 divide [0 2 2 1 0]"},
		{"print b(1, false) == b(2, false); print b(3, true) != b(4, true);", "1 2 1 3 4 0 done"},
		{"print b(1, false) && b(2, false) || b(3, true);", "1 3 1 done"},
		{"print p(p(p(1) + 1) + 1);", "1 2 3 3 done"},
	}.inMain("func p(n: int): int { print n; return n; } func b(n: int, v: bool): bool { print n; return v; } func s(x: int, y: int): int { return x - y; }").check(t)
}

// P3.1: calls: what parameters mean, how they end, what their values are.
func TestCalls(t *testing.T) {
	runs{
		{"func main() { let x: int = 1; f(x); print x; } func f(y: int) { print y; y = 5; print y; }", "1 5 1 done"},
		{"func main() { let x: int = 1; f(x + 1, x); print x; } func f(y: int, x: int) { print y; x = 5; print x; }", "2 5 1 done"},
		{"func main() { let a: int[2]; f(a, 7); print a[0]; print a[1]; } func f(b: int[2], x: int) { print b[1]; b[1] = x; }", "0 0 7 done"},
		{"func main() { let a: int[2]; let b: int[2]; f(a, b); print a[0]; print b[0]; f(b, a); print a[0]; } func f(a: int[2], b: int[2]) { a[0] = a[0] + 1; b[0] = b[0] + 10; }", "1 10 11 done"},
		{"func main() { let a: small[1]; g(a); print a[0]; } func f(c: small[1]) { c[0] = c[0] + 3s; } func g(b: small[1]) { f(b); f(b); }", "6 done"},
		{"global a: int[2]; func main() { f(a, 0); f(a, 1); print a[0]; print a[1]; } func f(b: int[2], x: int) { b[x] = x + 3; }", "3 4 done"},
		{"global g: int = 4; func main() { g = g + 1; f(); print g; f(); print g; } func f() { g = g * 2; }", "10 20 done"},
		{"global g: int = -7; global h: small = 200s; global k: bool = true; global l: bool; global m: int; func main() { print g; print h; print k; print l; print m; }", "-7 200 1 0 0 done"},
		{"global a: int[16]; global b: bool; global c: small[2]; func main() { for i in 0 .. 16 { print a[i]; } print c[1]; }", "0 0 0 0 0 0 0 0 0 0 0 0 0 0 0 0 0 done"},
		{"func main() { print f(3); print f(0); } func f(x: int): int { if x > 2 { return 10; } print 9; return x; }", "10 9 0 done"},
		{"func main() { print f(); } func f(): int { for i in 0 .. 9 { while true upto 5 { if i == 2 { return i; } print i; break; } } return 77; }", "0 1 2 done"},
		{"func main() { f(); print 4; } func f() { while true upto 5 { for i in 0 .. 9 { return; } } }", "4 done"},
		{"func main() { f(); print 4; f(); } func f(): int { print 3; return 9; }", "3 4 3 done"},
		{"func main() { f(); print 4; } func f() { print 3; return; print 5; }", "3 4 done"},
		{"func main() { print f() + 1s; } func f(): small { return 255s; }", "0 done"},
		{"func main() { print !f(); print ~g(); } func f(): bool { return 1 < 2; } func g(): small { return 1s; }", "0 254 done"},
		{"func main() { print f(f(f(2))); } func f(x: int): int { let y: int = x * x; return y; }", "256 done"},
		{"func f() { print 1; } func main() { f(); let f: int = 2; print f; f(); }", "1 2 1 done"},
		{"func main() { let x: int = 1; f(); print x; } func f() { let x: int = 2; print x; x = 3; }", "2 1 done"},
		{"func main() { for i in 0 .. 3 { print f(i); } } func f(i: int): int { i = i * 10; return i + 1; }", "1 11 21 done"},
		{"func main() { print f(true, 3s, 4); } func f(a: bool, b: small, c: int): int { return int(a) + int(b) * c; }", "13 done"},
		{"func f() { trap; } func main() { print 1; return; f(); }", "1 done"},
	}.check(t)
}

// P3.1: variables: values of scalars, and arrays that are new each time.
func TestVariables(t *testing.T) {
	runs{
		{"let x: int = 3; x = x + x; print x; let y: int; y = x; x = 0; print y;", "6 6 done"},
		{"let x: small = 255s; x = x + 1s; print x; let b: bool = true; b = !b; print b;", "0 0 done"},
		{"for i in 0 .. 2 { let a: int[2]; print a[0]; print a[1]; a[i] = 5; print a[i]; }", "0 0 5 0 0 5 done"},
		{"for i in 0 .. 2 { let x: int = i; x = x + 1; print x; }", "1 2 done"},
		{"let i: int = 0; while i < 3 upto 10 { let a: small[1]; a[0] = a[0] + 1s; print a[0]; i = i + 1; }", "1 1 1 done"},
		{"if true { let x: int = 1; print x; } if true { let x: small = 255s; print x + 1s; } let x: bool = true; print x;", "1 0 1 done"},
		{"if true { let x: int[2]; x[1] = 3; print x[1]; } for x in 5 .. 6 { print x; } let x: int[3]; print x[2];", "3 5 0 done"},
		{"let a: int[3]; let b: int[3]; a[1] = 4; b[1] = a[1] + 1; print a[1]; print b[1]; print a[0]; print a[2];", "4 5 0 0 done"},
		{"for i in 0 .. 2 { f(); }", "0 0 done"},
	}.inMain("func f() { let a: int[1]; print a[0]; a[0] = 1; }").check(t)
}

// P3.1: if, while, for, break and continue.
func TestControl(t *testing.T) {
	runs{
		{"if true { print 1; } print 2;", "1 2 done"},
		{"if false { print 1; } print 2;", "2 done"},
		{"if 1 < 2 { print 1; } else { print 2; } if 2 < 1 { print 3; } else { print 4; }", "1 4 done"},
		{"while false upto 3 { print 1; } print 2;", "2 done"},
		{"let n: int = 0; while n < 2 upto 9 { print n; n = n + 1; } print 7;", "0 1 7 done"},
		{"while true upto 1 { print 1; }", "1 done"},
		{"while p() upto 2 { print 1; } print 5;", "9 1 9 1 9 5 done"},
		{"for j in 0 .. 2 { while true upto 2 { print j; } }", "0 0 1 1 done"},
		{"for i in 3 .. 6 { print i; }", "3 4 5 done"},
		{"for i in 3 .. 3 { print i; } for i in 4 .. 3 { print i; } for i in 3 .. 4 { print i; }", "3 done"},
		{"for i in -2 .. 1 { print i; }", "-2 -1 0 done"},
		{"for i in 9223372036854775805 .. 9223372036854775807 { print i; }", "9223372036854775805 9223372036854775806 done"},
		{"for i in -9223372036854775807 - 1 .. -9223372036854775807 { print i; }", "-9223372036854775808 done"},
		{"for i in 9223372036854775807 .. -9223372036854775807 - 1 { print i; } for i in -9223372036854775807 - 1 .. 9223372036854775807 { print i; break; }", "-9223372036854775808 done"},
		{"let n: int = 2; for i in 0 .. n { n = 9; print i; } for i in n - 9 .. n - 7 { n = 0; print i; }", "0 1 0 1 done"},
		{"for i in 0 .. 9 { if i == 1 { continue; } if i == 4 { break; } print i; } print 7;", "0 2 3 7 done"},
		{"for i in 0 .. 2 { for j in 0 .. 9 { if j == 2 { break; } print i * 10 + j; } print 77; }", "0 1 77 10 11 77 done"},
		{"for i in 0 .. 2 { for j in 0 .. 3 { if j == 1 { continue; } print i * 10 + j; } print 77; }", "0 2 77 10 12 77 done"},
		{"let n: int = 0; while n < 5 upto 9 { n = n + 1; if n == 2 { continue; } if n == 4 { break; } print n; } print 8;", "1 3 8 done"},
		{"let n: int = 0; while true upto 3 { n = n + 1; continue; } print n;", "3 done"},
		{"while true upto 3 { for i in 0 .. 3 { break; } print 1; break; } print 2;", "1 2 done"},
		{"for i in 0 .. 2 { while true upto 2 { continue; } print i; continue; }", "0 1 done"},
		{"for i in 0 .. 3 { if i == 1 { if true { } else { print 5; } break; print 6; } else { print i; } }", "0 done"},
	}.inMain("func p(): bool { print 9; return true; }").check(t)
}

// P3.1: how many steps each statement and each expression takes.
func TestStepCounts(t *testing.T) {
	for _, c := range []struct {
		text string
		want int
	}{
		{"", 0},
		{"let x: int;", 1},
		{"let x: int[16];", 1},
		{"let x: int = 1;", 2},
		{"let x: int; x = 1;", 3},
		{"let x: int[2]; x[0] = 1;", 4},
		{"f();", 2},
		{"g(1, 2);", 6},
		{"print h(1);", 5},
		{"let a: int[2]; k(a, a[1]);", 6},
		{"print 1;", 2},
		{"trap;", 1},
		{"return;", 1},
		{"if true { }", 2},
		{"if false { print 1; } else { }", 2},
		{"if true { return; }", 3},
		{"while false upto 9 { }", 2},
		{"while true upto 3 { }", 1 + 4},
		{"while true upto 3 { break; }", 1 + 1 + 1},
		{"while true upto 3 { continue; }", 1 + 4 + 3},
		{"for i in 0 .. 3 { }", 3 + 3},
		{"for i in 3 .. 0 { }", 3},
		{"for i in 0 .. 3 { break; }", 3 + 2},
		{"for i in 0 .. 3 { continue; }", 3 + 2*3},
		{"print 1 + 2 * 3;", 6},
		{"print -~5;", 4},
		{"print int(small(5));", 4},
		{"print true && false;", 4},
		{"print false && true;", 3},
		{"print true || false;", 3},
		{"print 1 / 0;", 4},
		{"let a: int[1]; print a[0];", 4},
		{"let a: int[1]; print a[1];", 4},
		{"let a: int[1]; a[1] = 2;", 4},
	} {
		text := "func main() { " + c.text + " } func f() { } func g(x: int, y: int) { print x; } func h(x: int): int { return x; } func k(a: int[2], x: int) { }"
		p := read(t, text)
		if _, used, _, e := sem.Run(p, enough); used != c.want || e != api.OK {
			t.Errorf("%s: %d steps, want %d (error %d)", c.text, used, c.want, e)
		}
		if _, used, place, _ := sem.Run(p, c.want); used != c.want {
			t.Errorf("%s with %d steps: %d, at %v", c.text, c.want, used, place)
		}
	}
}

// P3.1: with each number of steps the run ends before the next node, or round, that begins.
func TestPlacesInOrder(t *testing.T) {
	for _, c := range []struct{ text, want string }{
		{"let x: int = 1 + 2; x = 3;", "0 0, 0 0 2, 0 0 2 0, 0 0 2 1, 0 1, 0 1 2"},
		{"let a: int[2]; a[0] = a[1];", "0 0, 0 1, 0 1 2, 0 1 3, 0 1 3 0"},
		{"if true { print 1; } if false { } else { return; } trap;", "0 0, 0 0 2, 0 0 0 0, 0 0 0 0 2, 0 1, 0 1 2, 0 1 1 0"},
		{"while true upto 2 { continue; } trap;", "0 0, 0 0 2, 0 0 0 0, 0 0 2, 0 0 0 0, 0 0 2, 0 1"},
		{"for i in 0 .. 2 { print i; } trap;", "0 0, 0 0 2, 0 0 3, 0 0, 0 0 0 0, 0 0 0 0 2, 0 0, 0 0 0 0, 0 0 0 0 2, 0 1"},
		{"for i in 0 .. 2 { break; } trap;", "0 0, 0 0 2, 0 0 3, 0 0, 0 0 0 0, 0 1"},
		{"print f(1, 2) + 3;", "0 0, 0 0 2, 0 0 2 0, 0 0 2 0 0, 0 0 2 0 1, 1 0, 1 0 2, 1 0 2 0, 1 0 2 1, 0 0 2 1"},
		{"let a: int[1]; g(a, -a[0]); trap;", "0 0, 0 1, 0 1 2, 0 1 2 0, 0 1 2 1, 0 1 2 1 0, 0 1 2 1 0 0, 2 0, 2 0 2, 2 1, 2 1 2, 2 1 2 0, 2 1 3, 0 2"},
		{"print true && (false || true);", "0 0, 0 0 2, 0 0 2 0, 0 0 2 1, 0 0 2 1 0, 0 0 2 1 1"},
		{"print int(true); print small(5);", "0 0, 0 0 2, 0 0 2 0, 0 1, 0 1 2, 0 1 2 0"},
	} {
		got := places(t, read(t, "func main() { "+c.text+" } func f(x: int, y: int): int { return x * y; } func g(b: int[1], x: int) { print x; b[b[0]] = 1; }"))
		if s := strings.Join(got, ", "); s != c.want {
			t.Errorf("%s\nbegins %s\nwant   %s", c.text, s, c.want)
		}
	}
	if b, used, place, e := sem.Run(read(t, "func main() { }"), 0); show(b, place) != "done" || used != 0 || e != api.OK {
		t.Errorf("nothing with 0 steps: %v, %d, %v, %d", b, used, place, e)
	}
}

// P3.1: the room for what is printed.
func TestRoom(t *testing.T) {
	for _, c := range []struct {
		text, want string
		printed    int
	}{
		{"for i in 0 .. 2000 { print i; }", "done", 2000},
		{"for i in 0 .. 2001 { print i; }", "steps [0 0 0 0]", 2000},
		{"for i in 0 .. 2000 { print i; } print 1;", "steps [0 1]", 2000},
		{"for i in 0 .. 2000 { print i; } print 1 / 0;", "divide [0 1 2]", 2000},
		{"for i in 0 .. 2000 { print i; } let x: int = 5; f(x);", "steps [1 0]", 2000},
		{"for i in 0 .. 1999 { print i; } f(1); f(2);", "steps [1 0]", 2000},
		{"while true upto 3 { f(1); } for i in 0 .. 9000 { }", "done", 3},
		{"for i in 0 .. 9000 { if false { } }", "steps [0 0 0 0 2]", 0},
	} {
		p := read(t, "func main() { "+c.text+" } func f(x: int) { print x; }")
		b, used, place, e := sem.Run(p, enough)
		printed := len(b.Out)
		b.Out = nil
		if got := show(b, place); got != c.want || printed != c.printed || e != api.OK {
			t.Errorf("%s: %s, %d printed, %d steps, error %d", c.text, got, printed, used, e)
		}
	}
	b, used, place, _ := sem.Run(read(t, "func main() { for i in 0 .. 2001 { print i + 1; } }"), enough)
	if used != 3+2001*5 || !slices.Equal(place, []int{0, 0, 0, 0}) || b.Out[1999] != 2000 {
		t.Errorf("%d steps, at %v", used, place)
	}
}

// P3.1: the errors of Run, in their order.
func TestRunErrors(t *testing.T) {
	good, flawed, wrong := read(t, "func main() { print 1; }"), read(t, "func main() { print x; }"), withBody(api.Stmt{Kind: 99})
	for _, c := range []struct {
		p     api.Program
		steps int
		want  api.Errno
	}{
		{good, 0, api.OK}, {good, enough, api.OK}, {good, -1, api.ErrArg}, {good, enough + 1, api.ErrArg}, {good, -1 << 63, api.ErrArg}, {good, most, api.ErrArg},
		{flawed, 10, api.ErrDown}, {flawed, -1, api.ErrDown}, {read(t, ""), 5, api.ErrDown}, {read(t, "func main() { let x: int; print x; }"), enough + 1, api.ErrDown},
		{wrong, 10, api.ErrArg}, {wrong, -1, api.ErrArg}, {withBody(make([]api.Stmt, 400)...), -1, api.ErrLong}, {api.Program{}, 1, api.ErrDown},
	} {
		b, used, place, e := sem.Run(c.p, c.steps)
		if e != c.want || e != api.OK && (fmt.Sprint(b) != fmt.Sprint(api.Behaviour{}) || used != 0 || len(place) != 0) {
			t.Errorf("%s\nwith %d steps: %v, %d, %v, error %d, want %d", text(c.p), c.steps, b, used, place, e, c.want)
		}
	}
}
