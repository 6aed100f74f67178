package defined_test

import "testing"

// P5.2: StWhile: what the condition leaves, in the rounds and after the loop.
func TestWhile(t *testing.T) {
	cases{
		{"let x: int = 9; while x > 0 upto 9 { print x; x = x - 2; } print x;", "1 to 9223372036854775807, all"},
		{"let x: int = 9; while x > 0 upto 9 { print x; x = 0; } print x;", "1 to 9, 0 to 9"},
		{"let x: int = 9; while x > 10 upto 9 { print x; } print x;", "none, 9"},
		{"let x: int = 9; while true upto 9 { x = 5; } print x; while false upto 9 { x = 1; } print x;", "5 to 9, 5 to 9"},
		{"let x: int = 9; while x < 20 upto 9 { x = 30; } print x;", "9 to 30"},
		{"let x: int = 0; while x < 3 upto 9 { x = x + 1; } print x;", "all"},
		{"let x: int = 0; while x < 2 upto 9 { x = x + 1; } print x;", "0 to 2"},
		{"let s: small = 0s; while s < 9s upto 9 { s = s + 1s; } print s;", "0 to 255"},
		{"let x: int = 0; while x < 1 / 0 upto 9 { x = 1; } print x;", "none"},
		{"let x: int = 0; while 6 / (x - 1) < 0 upto 9 { x = 1; print x; } print x;", "1, 0 to 1"},
		{"while true upto 1 { trap; } print 1;", "1"},
		{"while true upto 1 { return; } print 1;", "1"},
		{"let b: bool = false; while b upto 5 { print b; } print b; while !b upto 5 { b = true; print b; } print b;", "none, 0, 1, 0 to 1"},
		{"let x: int = 0; let y: int = 0; while x == 0 && y == 0 upto 9 { y = 1; } print x; print y; while x == 0 || y == 3 upto 9 { x = 1; } print x;", "0, 0 to 1, 0 to 1"},
	}.inMain("", "").values(t)
}

// P5.2: in the third round, and all later ones, what is still not the same gets the whole range, and nothing else does.
func TestWidening(t *testing.T) {
	const last = "print x; print y; print z; print w;"
	for _, loop := range []string{"for i in 0 .. 9 { ", "while true upto 9 { "} {
		cases{
			{"let x: int = 0; let y: int = 0; let z: int = 0; let w: int = 0;" + loop + "x = 1; }" + last, "0 to 1, 0, 0, 0"},
			{"let x: int = 0; let y: int = 0; let z: int = 0; let w: int = 0;" + loop + "y = x; x = 1; }" + last, "0 to 1, 0 to 1, 0, 0"},
			{"let x: int = 0; let y: int = 0; let z: int = 0; let w: int = 0;" + loop + "z = y; y = x; x = 1; }" + last, "0 to 1, 0 to 1, all, 0"},
			{"let x: int = 0; let y: int = 0; let z: int = 0; let w: int = 0;" + loop + "w = z; z = y; y = x; x = 1; }" + last, "0 to 1, 0 to 1, all, all"},
			{"let x: int = 0; let y: int = 0; let z: int = 0; let w: int = 0;" + loop + "w = z & 7; z = y; y = x; x = 1; }" + last, "0 to 1, 0 to 1, all, all"},
			{"let x: int = 0; let y: int = 0; let z: int = 0; let w: int = 0;" + loop + "if z > 1 { w = 3; } z = y; y = x; x = 1; }" + last, "0 to 1, 0 to 1, all, all"},
			{"let x: small = 7s; let y: bool = false; let z: bool = false; let w: small = 7s;" + loop + "w = x; z = y; y = x == 8s; x = 8s; }" + last, "7 to 8, 0 to 1, 0 to 1, 7 to 8"},
			{"let x: small = 7s; let y: small = 7s; let z: small = 7s; let w: int = 7;" + loop + "z = y; y = x; x = 8s; }" + last, "7 to 8, 7 to 8, 0 to 255, 7"},
			{"let x: int = 0; let y: int = 0; let z: int[3]; let w: small[2];" + loop + "w[0] = small(x); z[1] = y; y = x; x = 1; }  print x; print y; print z[2]; print w[1];", "0 to 1, 0 to 1, all, 0 to 1"},
			{"let x: small[2]; let y: small[2]; let z: small[2]; let w: int = 0;" + loop + "z[0] = y[1]; y[0] = x[1]; x[0] = 1s; }  print x[1]; print y[1]; print z[1]; print w;", "0 to 1, 0 to 1, 0 to 255, 0"},
			{"let x: int = 0; let y: int = 0; let z: int = 0; let w: int = 0;" + loop + "x = (x + 1) & 1; y = y - 1; z = y * 0; w = 5 % (w + 2); }" + last, "0 to 1, all, 0, all"},
		}.inMain("", "").values(t)
	}
	cases{
		{"global g: int; global h: int; global k: int; func f() { k = h; h = g; g = 2; } func main() { for i in 0 .. 5 { f(); } print g; print h; print k; }", "0 to 2, 0 to 2, all"},
		{"func main() { let x: int = 0; for i in 0 .. 3 { for j in 0 .. 3 { x = x + 1; } } print x; }", "all"},
		{"func main() { let x: int = 0; for i in 0 .. 2 { let y: int = 0; for j in 0 .. 2 { y = 1; } x = y; } print x; }", "0 to 1"},
	}.values(t)
}

// P5.2: StFor: its name, its bounds, and what is left after it.
func TestFor(t *testing.T) {
	cases{
		{"for i in 3 .. 9 { print i; }", "3 to 8"},
		{"for i in 5 .. 5 { print i; } print 1;", "none, 1"},
		{"for i in 5 .. 4 { print i; } for i in 5 .. 6 { print i; } for i in -9223372036854775807 - 1 .. 9223372036854775807 { print i; }", "none, 5, -9223372036854775808 to 9223372036854775806"},
		{"for i in 0 .. -9223372036854775807 - 1 { print i; } for i in 9223372036854775807 .. 9223372036854775807 { print i; } print 4;", "none, none, 4"},
		{"for i in 2 .. 5 { for j in i .. i + 3 { print j; } }", "2 to 6"},
		{"for i in 2 .. 5 { for j in i + 4 .. i + 1 { print j; } print i; }", "none, 2 to 4"},
		{"for i in 2 .. 5 { for j in i .. i { print j; } }", "2 to 3"},
		{"let n: int = 5; for i in n .. n + 3 { print i; n = 100; } print n;", "5 to 7, 5 to 100"},
		{"for i in 1 / 0 .. 5 { print i; } print 1;", "none, none"},
		{"for i in 0 .. 5 / 0 { print i; } print 1;", "none, none"},
		{"for i in up() .. up() { print i; } print g; for i in 3 .. up() - 9 { print i; } print g;", "1, 2, none, 3"},
		{"for i in 0 .. 3 { trap; } print 1;", "1"},
		{"for i in 0 .. 3 { let x: int = i; print x; } for i in 9 .. 10 { let x: small = 4s; print x; }", "0 to 2, 4"},
		{"for i in 0 .. 3 { if i == 1 { print i; } else { print i; } print i; }", "1, 0 to 2, 0 to 2"},
	}.inMain("global g: int; ", "func up(): int { g = g + 1; return g; }").values(t)
}

// P5.2: breaks, continues and returns of loops.
func TestJumps(t *testing.T) {
	cases{
		{"let x: int = 0; while true upto 9 { if x == 0 { x = 5; break; } x = 7; } print x;", "0 to 5"},
		{"let x: int = 0; for i in 0 .. 9 { if i == 4 { x = 5; break; } } print x;", "0 to 5"},
		{"let x: int = 0; for i in 0 .. 9 { if i == 4 { x = 5; continue; } x = 1; } print x;", "0 to 5"},
		{"let x: int = 0; for i in 0 .. 9 { if i == 4 { x = 5; continue; } if i == 5 { x = 6; continue; } if i == 6 { x = -1; continue; } x = 1; } print x;", "-1 to 6"},
		{"let x: int = 0; for i in 0 .. 9 { if i == 4 { x = 5; break; } if i == 5 { x = 6; break; } if i == 6 { x = -1; break; } x = 1; } print x;", "-1 to 6"},
		{"let x: int = 0; while x < 3 upto 9 { x = 3; continue; x = 100; } print x;", "0 to 3"},
		{"let x: int = 0; while true upto 9 { x = 3; break; } print x; while true upto 9 { continue; } print x;", "0 to 3, 0 to 3"},
		{"let x: int = 0; for i in 0 .. 3 { for j in 0 .. 3 { if j == 1 { break; } x = 1; } if i == 1 { x = 2; continue; } x = 3; break; } print x;", "0 to 3"},
		{"let x: int = 0; for i in 0 .. 3 { for j in 0 .. 3 { let y: int = 4; x = y; break; } print x; } print x;", "0 to 4, 0 to 4"},
		{"let x: int = 0; for i in 0 .. 3 { if i > 0 { let y: int = 1; x = y; if x == 1 { let z: int = 2; break; } continue; } else { let y: bool = true; break; } } let y: small = 3s; let z: small = 4s; print x; print y; print z;", "0 to 1, 3, 4"},
		{"for i in 0 .. 3 { return; print i; } print 3;", "none, 3"},
		{"print f(0); print f(5);", "4, 0 to 7"},
	}.inMain("", "func f(n: int): int { for i in 0 .. n { while i > 2 upto 5 { return n + 2; } if i == 1 { return 0; } } return 4; }").values(t)
}

// An inner loop goes through more rounds, and widens x, if x is 0 before it than if it is 0 to 5.
const narrowing = "for i in 0 .. 9 { for j in 0 .. 3 { if x < 5 { x = x + 1; } } "

// P5.1, P5.2: what earlier rounds find out stays: breaks, returns, what is yielded, what may trap.
func TestEarlierRounds(t *testing.T) {
	cases{
		{"let x: int = 0; " + narrowing + "x = 5; } print x;", "0 to 5"},
		{"let x: int = 0; " + narrowing + "if x > 50 { break; } x = 5; } print x;", "0 to 9223372036854775807"},
		{"let x: int = 0; " + narrowing + "if x > 50 { print x; } x = 5; } print x;", "51 to 9223372036854775807, 0 to 5"},
		{"let x: int = 0; let k: int = 0; while true upto 9 { " + narrowing + "if x > 50 { k = x; break; } x = 5; } break; } print k;", "0 to 9223372036854775807"},
		{"print f();", "-1 to 9223372036854775807"},
	}.inMain("", "func f(): int { let x: int = 0; "+narrowing+"if x > 50 { return x; } x = 5; } return -1; }").values(t)
	cases{
		{"let x: int = 0; " + narrowing + "print 1 / (x - 70); x = 5; }", "traps 0 1 0 1 2"},
		{"let x: int = 0; " + narrowing + "print 1 << x; x = 5; }", "false at 0 1 0 1 2"},
	}.inMain("", "").prove(t)
}
