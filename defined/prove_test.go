package defined_test

import "testing"

// P5.1: the examples of the chapter.
func TestExamples(t *testing.T) {
	cases{
		{"func main() { let x: int = 5; print 100 / x; }", ""},
		{"func main() { let x: int = 0; for i in 0 .. 10 { x = x + i; } print 1 / x; }", "traps 0 2 2"},
		{"func main() { let x: int = 3; print 1 << x; print 1 << (x * 30); }", "false at 0 2 2"},
		{"global a: int[4]; func main() { for i in 0 .. 4 { a[i] = i; } print a[3]; }", ""},
		{"func f(n: int): int { if n == 0 { return 1; } return 100 / n; } func main() { print f(0); print f(5); }", ""},
		{"func main() { let x: int = 9; while x > 0 upto 9 { x = x - 2; } print small(x); }", ""},
	}.prove(t)
}

// P5.1: operators that may trap, or may be undefined, or are for sure.
func TestOperators(t *testing.T) {
	cases{
		{"print 1 / 0;", "traps 0 0 2"},
		{"print 1s % 0s;", "traps 0 0 2"},
		{"for i in 0 .. 3 { print i / i; print i % i; let s: small = small(i); print s / s; print s % s; }", "traps 0 0 0 0 2] [0 0 0 1 2] [0 0 0 3 2] [0 0 0 4 2"},
		{"print 1 << 63; print 1 >> 0; print 1s << 7s; print 1s >> 0s;", ""},
		{"print 1 << 64; print 1 / 0;", "false at 0 0 2"},
		{"print 1s << 8s;", "false at 0 0 2"},
		{"print 1 >> -1;", "false at 0 0 2"},
		{"print 1s >> 8s;", "false at 0 0 2"},
		{"let x: int = -9223372036854775807; print (x - 1) / -1;", "false at 0 1 2"},
		{"let x: int = -9223372036854775807; print (x - 1) % -1; print 2;", "false at 0 1 2"},
		{"let x: int = -9223372036854775807; print x / -1; print (x - 1) / 1; print 0s / 255s;", ""},
		{"let x: int = 0; while true upto 5 { x = x + 1; } print x / x; print x % x;", "traps 0 2 2] [0 3 2; false at 0 2 2"},
		{"print 1 + 1 / 0 * 2;", "traps 0 0 2 1 0"},
		{"print 5 / (1 / 0); print 1;", "traps 0 0 2 1"},
		{"print 1 / 0 / 0;", "traps 0 0 2 0"},
		{"print 1 << 64 << 64;", "false at 0 0 2 0"},
		{"print (1 << 64) + 1 / 0;", "false at 0 0 2 0"},
		{"print 1 / 0 + (1 << 64);", "traps 0 0 2 0"},
		{"print -(1 / 0); print 1 << 64;", "traps 0 0 2 0"},
		{"print ~1 + 9223372036854775807 * 2 - 7; print 250s + 250s; print -5s; print (1 < 2) == true;", ""},
	}.inMain("", "").prove(t)
}

// P5.1: operators in functions that are called with other values later.
func TestEachCall(t *testing.T) {
	cases{
		{"func f(x: int): int { return 10 / x; } func main() { print f(1); print f(2); }", ""},
		{"func f(x: int): int { return 10 / x; } func main() { print f(1); print f(0); print f(2); }", "traps 0 0 2"},
		{"func f(x: int): int { return 1 << x; } func main() { print f(1); print f(99); print f(2); }", "false at 0 0 2"},
		{"func f(x: int): int { return 1 << x; } func main() { }", ""},
		{"func f(x: int) { print 1 / x; print 1 << x; } func main() { for i in 0 .. 65 { f(i); } }", "traps 0 0 2; false at 0 1 2"},
		{"func f(x: int) { print 1 / x; print 1 << x; } func main() { f(64); f(0); }", "false at 0 1 2"},
	}.prove(t)
}

// P5.1: indices, of expressions and of statements.
func TestIndices(t *testing.T) {
	cases{
		{"print a[0]; print a[2];", ""},
		{"print a[3];", "traps 0 0 2"},
		{"print a[-1]; print 1 << 64;", "traps 0 0 2"},
		{"for i in 0 .. 3 { print a[i]; }", ""},
		{"for i in 0 .. 4 { print a[i]; }", "traps 0 0 0 0 2"},
		{"for i in -1 .. 3 { print a[i]; a[i] = 5; } print a[a[0]];", "traps 0 0 0 0 2] [0 0 0 1] [0 1 2"},
		{"a[0] = 1; a[2] = 7; print a[1];", ""},
		{"print a[5 / 0];", "traps 0 0 2 0"},
		{"a[3] = 1; print 1 << 64;", "traps 0 0"},
		{"a[3] = 1 / 0;", "traps 0 0 3"},
		{"a[1 / 0] = 1 << 64;", "traps 0 0 2"},
		{"a[1] = 1 << 64; print 1 << 65;", "false at 0 0 3"},
		{"let b: small[1]; b[0] = 3s; print b[0]; b[1] = 3s;", "traps 0 3"},
	}.inMain("global a: int[3]; ", "").prove(t)
}

// P5.1: places are in the order of nodes, not in that of paths, nor of visits; each is there once.
func TestOrderOfPlaces(t *testing.T) {
	cases{
		{"func z(): int { for i in 0 .. 2 { return i; } return 0; } func main() { if z() / z() == 1 / z() { print 2 / z(); } else { print 3 / z(); } }", "traps 1 0 2 0] [1 0 2 1] [1 0 0 0 2] [1 0 1 0 2"},
		{"func z(): int { for i in 0 .. 2 { return i; } return 0; } func main() { while 1 / z() == 1 upto 9 { print 2 / z(); } for i in 3 / z() .. 4 / z() + 9 { trap; } }", "traps 1 0 2 0] [1 0 0 0 2] [1 1 2] [1 1 3 0] [1 1 0 0"},
		{"func g(n: int) { print 1 << n; } func f(n: int) { g(n); print 1 << n + 64; } func main() { f(0); }", "false at 1 1 2"},
		{"func g(n: int) { print 1 << n; } func f(n: int) { print 1 << n + 64; g(n); } func main() { g(0); f(0); g(64); }", "false at 1 0 2"},
		{"func g(n: int) { print 1 << n; } func f(n: int) { print 1 << n; if n < 5 { return; } g(n); } func main() { f(0); for i in 0 .. 65 { f(i); } }", "false at 0 0 2"},
		{"func f(n: int) { while 1 / n == 1 upto 3 { print 8 % n; } trap; } func main() { f(0); }", "traps 0 0 2 0"},
		{"func f(n: int) { if 1 << n == 4 || 2 / n < 0 { trap; } print 3 / n; } func main() { for i in 0 .. 65 { f(i); f(i); } }", "traps 0 0 2 1 0] [0 0 0 0] [0 1 2; false at 0 0 2 0 0"},
	}.prove(t)
}

// P5.1: a trap that is stated.
func TestTraps(t *testing.T) {
	cases{
		{"trap;", "traps 0 0"},
		{"if false { trap; }", ""},
		{"return; trap;", ""},
		{"trap; trap; print 1 << 64;", "traps 0 0"},
		{"let b: bool = true; if b { } else { trap; }", ""},
		{"while true upto 3 { break; trap; }", ""},
		{"while true upto 3 { continue; trap; }", ""},
		{"while true upto 3 { trap; } trap;", "traps 0 0 0 0] [0 1"},
		{"for i in 0 .. 2 { if i > 0 { trap; } }", "traps 0 0 0 0 0 0"},
	}.inMain("", "").prove(t)
}
