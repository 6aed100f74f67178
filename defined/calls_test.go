package defined_test

import "testing"

// P5.2: parameters, results, and what is left of the variables of the caller.
func TestCalls(t *testing.T) {
	cases{
		{"func f(x: int): int { print x; return x + 1; } func main() { print f(3); print f(7); }", "3 to 7, 4, 8"},
		{"func f(x: int, s: small, b: bool) { print x; print s; print b; } func main() { f(3, 4s, true); f(-1, 5s, 1 > 2); }", "-1 to 3, 4 to 5, 0 to 1"},
		{"func f(x: int): int { x = x + 1; return x * 2; } func main() { let x: int = 5; print f(x); print x; }", "12, 5"},
		{"func f(b: bool): small { if b { return 3s; } return 200s; } func main() { print f(true); print f(false); for i in 0 .. 2 { print f(i == 0); } }", "3, 200, 3 to 200"},
		{"func f(x: int): int { for i in 0 .. x { if i == 5 { return i; } } return -x; } func main() { print f(3); print f(9); }", "-3, -9 to 5"},
		{"func f(x: int) { if x > 0 { return; } print x; } func main() { f(3); print 1; f(-2); print 2; }", "-2, 1, 2"},
		{"func f(x: int) { if x > 0 { trap; } } func main() { f(0); print 1; f(3); print 2; }", "1, none"},
		{"func f(x: int): int { if x > 0 { trap; } return x; } func main() { print f(0); print f(3); print 2; }", "0, none, none"},
		{"func f(x: int): int { return 6 / x; } func main() { print f(2); print f(0); print 2; }", "3, none, none"},
		{"func f(x: int): int { return x; } func main() { print f(1 / 0); print 2; }", "none, none"},
		{"func f(x: int, y: int): int { print x; return y; } func main() { print f(1, 1 / 0); }", "none, none"},
		{"func f(x: int): int { return x; } func g(x: int): int { return f(f(x) + f(1)); } func main() { print g(5); print f(g(0)); }", "6, 1"},
		{"func f(x: int): int { let y: int = x; if x > 1 { let z: int = 3; y = z; } return y; } func main() { let y: int = 9; let z: bool = true; print f(0); print f(2); print y; print z; }", "0, 3, 9, 1"},
	}.values(t)
}

// P5.2: globals go into functions and come back.
func TestGlobals(t *testing.T) {
	cases{
		{"global g: int = 1; func f() { print g; g = 7; } func main() { f(); print g; f(); g = 2; f(); print g; }", "1 to 7, 7, 7"},
		{"global g: int = 1; func f(b: bool) { if b { g = 5; return; } g = 6; } func main() { f(true); print g; f(false); print g; for i in 0 .. 2 { f(i == 0); print g; } }", "5, 6, 5 to 6"},
		{"global g: int = 1; func f(n: int) { if n == 3 { g = 6; return; } if n == 4 { g = 5; return; } if n == 5 { g = -1; trap; } g = 4; } func main() { for i in 0 .. 9 { f(i); print g; } }", "4 to 6"},
		{"global g: int = 1; global h: int = 2; func f() { g = h; h = 9; } func main() { let x: int = g; f(); print g; print h; print x; f(); print g; }", "2, 9, 1, 9"},
		{"global g: int = 1; func f(): int { g = g + 1; return g; } func main() { print f() + g; print g + f(); print g; }", "4, 5, 3"},
		{"global g: int = 1; func f(): int { g = g + 1; return g; } func two(x: int, y: int): int { return x * 10 + y; } func main() { print two(g, f()); print two(f(), g); }", "12, 33"},
		{"global a: int[2]; func f(n: int) { a[0] = n; } func main() { f(5); print a[1]; f(-3); print a[0]; }", "0 to 5, -3 to 5"},
		{"global g: int = 1; func f() { let x: int = 3; if x > g { g = 8; return; } } func main() { f(); print g; }", "8"},
	}.values(t)
}

// P5.2: arrays that are given.
func TestArrays(t *testing.T) {
	cases{
		{"func f(a: int[2], n: int) { a[1] = n; print a[0]; } func main() { let a: int[2]; let b: int[2]; f(a, 5); print a[0]; print b[0]; f(b, -1); print a[1]; print b[1]; }", "-1 to 5, 0 to 5, 0, 0 to 5, -1 to 0"},
		{"global a: int[2]; func f(b: int[2]) { b[0] = 4; } func main() { f(a); print a[1]; f(a); }", "0 to 4"},
		{"global a: int[2]; func f(b: int[2]) { g(b, 4); } func g(c: int[2], n: int) { c[n - 4] = n; } func main() { f(a); print a[1]; }", "0 to 4"},
		{"func f(a: int[2], b: int[2]) { a[0] = b[0] + 1; b[0] = 7; } func main() { let x: int[2]; let y: int[2]; f(x, y); print x[0]; print y[0]; f(y, x); print x[0]; print y[0]; }", "0 to 1, 0 to 7, 0 to 7, 0 to 7"},
		{"func f(a: int[2], n: int) { print a[0]; print n; } func g(a: int[2]): int { a[0] = 3; return 1; } func main() { let b: int[2]; f(b, g(b)); }", "0 to 3, 1"},
		{"func f(a: int[2], n: int) { print a[0]; print n; } func g(a: int[2]): int { a[0] = 3; return 1; } func main() { let b: int[2]; f(b, b[0] + g(b)); }", "0 to 3, 1"},
		{"global a: int[2]; func f(b: int[2], n: int) { print b[0] + n; } func g(): int { a[0] = 3; return 1; } func main() { f(a, g()); }", "1 to 4"},
		{"func f(a: int[2], b: bool) { if b { a[0] = 3; return; } a[0] = 9; trap; } func main() { let c: int[2]; for i in 0 .. 2 { f(c, i == 0); } print c[0]; }", "0 to 3"},
		{"func f(a: small[3]) { a[2] = 255s; } func main() { let c: small[3]; f(c); print c[0] + 1s; print int(c[0]) + 1; }", "0 to 255, 1 to 256"},
	}.values(t)
}

// P5.2: in comparisons, a name on the left gets nothing if there is a call on the right.
func TestCallsInConditions(t *testing.T) {
	cases{
		{"if g < f() { print g; } else { print g; }", "64, none"},
		{"if g < f() + 0 { print g; } print g;", "64, 64"},
		{"if g < -id(1 + id(2)) { print g; } else { print g; }", "none, 1"},
		{"for i in 0 .. 9 { if i < id(5) { print i; } else { print i; } }", "0 to 8, 0 to 8"},
		{"for i in 0 .. 9 { if i < 5 - id(1) { print i; } if i != small5(id(5)) { print i; } }", "0 to 8, 0 to 8"},
		{"for i in 0 .. 9 { if id(5) > i { print i; } else { print i; } }", "0 to 4, 5 to 8"},
		{"for i in 0 .. 9 { for j in 4 .. 9 { if i + id(0) < j { print j; } else { print j; } } }", "4 to 8, 4 to 8"},
		{"for i in 3 .. 9 { for j in 2 .. 7 { if id(i) < j { print i; print j; } else { print i; print j; } } }", "3 to 8, 4 to 6, 3 to 8, 2 to 6"},
		{"if f() > g { print g; } else { print g; }", "none, 64"},
		{"let b: bool = true; if b == yes() { print b; } else { print b; }", "1, none"},
		{"if yes() && g < 5 { print g; } if no() || g > 5 { print g; } else { print g; }", "1, none, 1"},
	}.inMain("global g: int = 1; ", "func f(): int { let old: int = g; g = 64; return 30 * old; } func id(x: int): int { return x; } func small5(x: int): int { return x; } func yes(): bool { return true; } func no(): bool { return false; }").values(t)
}
