package defined_test

import (
	"testing"

	"cupel/api"
	"cupel/defined"
)

// P5.2: expressions of each kind.
func TestExpressions(t *testing.T) {
	cases{
		{"print 5; print 250s; print true; print false;", "5, 250, 1, 0"},
		{"for i in 2 .. 6 { print i; print -i; print ~i; }", "2 to 5, -5 to -2, -6 to -3"},
		{"for i in 254 .. 256 { let s: small = small(i); print s; print -s; print ~s; print int(s) + 10; print s + 10s; }", "254 to 255, 1 to 2, 0 to 1, 264 to 265, 8 to 9"},
		{"for i in 254 .. 258 { print small(i); } print small(-1); print small(511);", "0 to 255, 255, 255"},
		{"for i in 0 .. 3 { print i * 10; print i + 10; print i - 10; print 10 / (i + 1); print 10 % (i + 4); print i << 2; print 8 >> i; }", "0 to 20, 10 to 12, -10 to -8, 3 to 10, 0 to 5, 0 to 8, 2 to 8"},
		{"for i in 4 .. 6 { print i & 7; print i | 1; print i ^ 1; }", "0 to 5, 4 to 7, 0 to 7"},
		{"for i in 0 .. 3 { print i == 1; print i == 3; print i != 3; print i < 3; print i < 2; print i <= -1; print i > 2; print i >= 0; }", "0 to 1, 0, 1, 1, 0 to 1, 0, 0, 1"},
		{"let b: bool = true; print !b; print int(b); print b == false; print b != false; print int(b) + 1;", "0, 1, 0, 1, 2"},
		{"print 9223372036854775807 + 1; print -9223372036854775807 - 1; for i in 0 .. 2 { print 9223372036854775807 + i; }", "all, -9223372036854775808, all"},
		{"print 1 / 0; print 5;", "none, none"},
		{"print 5 + 1 / 0;", "none"},
		{"print -(1 / 0); print 1;", "none, none"},
		{"print small(1 / 0);", "none"},
		{"print 1 << 64; print 1;", "none, none"},
		{"for i in 0 .. 3 { print 6 / i; print i; }", "3 to 6, 0 to 2"},
	}.inMain("", "").values(t)
}

// P5.2: what is below an expression that yields nothing.
func TestBelow(t *testing.T) {
	p := read(t, "func main() { print (1 + 2) / 0 + (3 + 4); }")
	for _, c := range []struct {
		path []int
		want string
	}{
		{[]int{0, 0, 2}, "none"}, {[]int{0, 0, 2, 0}, "none"}, {[]int{0, 0, 2, 0, 0}, "3"}, {[]int{0, 0, 2, 0, 1}, "0"}, {[]int{0, 0, 2, 1}, "none"}, {[]int{0, 0, 2, 1, 0}, "none"},
	} {
		r, some, e := defined.Values(p, c.path)
		if got := showRange(r, some); got != c.want || e != api.OK {
			t.Errorf("%v: %s, error %d, want %s", c.path, got, e, c.want)
		}
	}
}

// P5.2: globals, and what statements do to variables.
func TestVariables(t *testing.T) {
	cases{
		{"global g: int = -7; global h: small = 200s; global b: bool = true; global z: int; func main() { print g; print h; print b; print z; }", "-7, 200, 1, 0"},
		{"global a: int[3]; global s: small[2]; func main() { print a[1]; print s[0]; a[1] = 5; print a[2]; a[2] = -2; s[1] = 9s; print a[0]; print s[1]; }", "0, 0, 0 to 5, -2 to 5, 0 to 9"},
		{"func main() { let x: int = 5; print x; x = 7; print x; x = x + x; print x; }", "5, 7, 14"},
		{"func main() { let x: small; let y: int; let b: bool; if true { x = 1s; y = 2; b = true; } else { trap; } print x; print y; print b; }", "1, 2, 1"},
		{"func main() { let a: int[2]; a[0] = 3; for i in 0 .. 2 { let b: int[2]; print b[0]; b[i] = 4; print b[1]; a[i] = b[i] + 1; } print a[0]; }", "0, 0 to 4, 0 to 5"},
		{"global a: int[2]; func f(): int { a[0] = 9; return 0; } func main() { print a[f()]; }", "0 to 9"},
		{"global a: int[2]; func f(): int { a[0] = 9; return 2; } func main() { a[f()] = 3; print a[0]; }", "none"},
		{"global a: int[2]; func f(): int { a[0] = 9; return 1; } func main() { a[f()] = a[0] + 1; print a[0]; }", "0 to 10"},
		{"func main() { let a: int[2]; let k: int = 5; a[k] = 3; print k; }", "none"},
		{"func main() { let a: int[2]; for k in 1 .. 9 { print a[k]; print k; } }", "0, 1 to 8"},
		{"func main() { let a: int[2]; let k: int = 5; print a[k]; print k; }", "none, none"},
	}.values(t)
}

// P5.2: a let without a value shows where states come together: nothing is left of it if it has a value on all ways.
func TestUnsetScalars(t *testing.T) {
	cases{
		{"let x: int; for i in 0 .. 2 { x = i; print x; }", "0 to 1"},
		{"for i in 0 .. 2 { let x: int; if i == 0 { x = 1; } else { x = 5; } print x; }", "1 to 5"},
		{"for i in 0 .. 9 { let x: small; while true upto 2 { x = 3s; print x; } }", "3"},
	}.inMain("", "").values(t)
}

// P5.2: && and || where no condition is divided.
func TestConnectives(t *testing.T) {
	cases{
		{"print true && true; print true && false; print false && true; print false || false; print false || true; print true || true;", "1, 0, 0, 0, 1, 1"},
		{"for i in 0 .. 9 { print i > 3 && i < 4; print i > 3 && i < 9; print i < 9 && i >= 0; print i > 8 || i < 0; print i >= 0 || i < 0; }", "0, 0 to 1, 1, 0, 1"},
		{"for i in 0 .. 9 { print i == 3 || i / (i - 3) == 5; }", "0 to 1"},
		{"for i in 0 .. 9 { let b: bool = i > 2 && i < 5; print i; print b; }", "0 to 8, 0 to 1"},
		{"for i in 0 .. 9 { let b: bool = i > 2 && 1 / 0 == 1; print i; print b; }", "0 to 2, 0"},
		{"for i in 0 .. 9 { let b: bool = i > 2 || 1 / 0 == 1; print i; print b; }", "3 to 8, 1"},
		{"let b: bool = 1 / 0 == 1 && true; print 1;", "none"},
		{"let b: bool = true && 1 / 0 == 1; print 1;", "none"},
		{"let b: bool = false || 1 / 0 == 1; print 1;", "none"},
		{"for i in 0 .. 9 { print !(i > 3 && i < 4); print (i > 3 || i < 9) == true; print int(i > 3 && i < 5) + 1; }", "1, 1, 1 to 2"},
	}.inMain("", "").values(t)
	cases{
		{"for i in 0 .. 9 { print i == 0 || 5 / i > 1; }", ""},
		{"for i in 0 .. 9 { print i != 0 && 5 / i > 1; }", ""},
		{"for i in 0 .. 9 { print i == 0 && 5 / i > 1; }", "traps 0 0 0 0 2 1 0"},
		{"for i in 0 .. 9 { print i != 0 || 5 / i > 1; }", "traps 0 0 0 0 2 1 0"},
		{"for i in 0 .. 9 { let b: bool = i != 0; print b && 5 / i > 1; }", "traps 0 0 0 1 2 1 0"},
	}.inMain("", "").prove(t)
}

// P5.2: conditions and what they leave of variables.
func TestConditions(t *testing.T) {
	cases{
		{"for i in 0 .. 9 { if i > 3 { print i; } else { print i; } print i; }", "4 to 8, 0 to 3, 0 to 8"},
		{"for i in 0 .. 9 { if 3 < i { print i; } else { print i; } }", "4 to 8, 0 to 3"},
		{"for i in 0 .. 9 { if i == 0 { print i; } else { print i; } if i != 8 { print i; } else { print i; } }", "0, 1 to 8, 0 to 7, 8"},
		{"for i in 0 .. 9 { if !(i >= 3) { print i; } else { print i; } if !!(i <= 3) { print i; } }", "0 to 2, 3 to 8, 0 to 3"},
		{"for i in 0 .. 9 { if i > 2 && i < 5 { print i; } else { print i; } }", "3 to 4, 0 to 8"},
		{"for i in 0 .. 9 { if i < 3 || i > 5 { print i; } else { print i; } }", "0 to 8, 3 to 5"},
		{"for i in 0 .. 9 { if !(i < 3 || i > 5) && i != 4 { print i; } }", "3 to 5"},
		{"for i in 0 .. 9 { for j in 5 .. 20 { if i > j { print i; print j; } else { print i; print j; } } }", "6 to 8, 5 to 7, 0 to 8, 5 to 19"},
		{"for i in 0 .. 9 { for j in 5 .. 20 { if i == j { print i; print j; } } }", "5 to 8, 5 to 8"},
		{"for i in 0 .. 9 { if i < i { print i; } if i <= i { print i; } if i != i { print i; } }", "1 to 8, 0 to 8, 0 to 8"},
		{"for i in 0 .. 9 { if i + 1 > 5 { print i; } if i > i - 2 { print i; } }", "0 to 8, 0 to 8"},
		{"for i in 0 .. 9 { let s: small = small(i); if s < 4s { print s; print i; } if 200s < s { print s; } }", "0 to 3, 0 to 8, none"},
		{"for i in 0 .. 2 { let b: bool = i == 1; if b { print b; } else { print b; } if !b { print b; } }", "1, 0, 0"},
		{"for i in 0 .. 2 { let b: bool = i == 1; let c: bool = b; if b == c { print b; } if b != true { print b; } if (b == true) == c { print c; } }", "0 to 1, 0, 0 to 1"},
		{"for i in 0 .. 2 { let b: bool = i == 1; if b == true { print b; } else { print b; } if false == b { print b; } }", "1, 0, 0"},
		{"if true { print 1; } else { print 2; } if false { print 3; } else { print 4; } print 5;", "1, none, none, 4, 5"},
		{"if odd(3) { print 1; } else { print 2; } for i in 0 .. 9 { if odd(i) { print 3; } else { print 4; } if !odd(i * 2) || odd(i) { print i; } }", "1, 2, 3, 4, 0 to 8"},
		{"if never() { print 1; } else { print 2; } if !never() { print 3; } if never() || always() { print 4; } if always() && never() { print 5; } else { print 6; }", "none, 2, 3, 4, none, 6"},
		{"let x: int = 5; if x == 5 { x = 7; } else { x = 9; } print x;", "7"},
		{"let x: int = 5; for i in 0 .. 2 { if i == 1 { x = 7; } else { x = 9; } print x; }", "7 to 9"},
		{"let x: int = 5; for i in 0 .. 2 { if i == 1 { x = 7; } print x; }", "5 to 7"},
		{"for i in 0 .. 2 { if i == 1 { trap; } print i; } ", "0"},
		{"for i in 0 .. 2 { if i == 1 { trap; } else { return; } print i; } print 3;", "none, 3"},
		{"if 1 / 0 == 1 { print 1; } else { print 2; } print 3;", "none, none, none"},
		{"if 2 > 1 / 0 { print 1; } print 3;", "none, none"},
		{"if none() { print 1; } else { print 2; } print 3;", "none, none, none"},
	}.inMain("", "func odd(n: int): bool { return n % 2 == 1; } func never(): bool { return false; } func always(): bool { return true; } func none(): bool { trap; }").values(t)
}

// P5.2: conditions that are divided have values too, and so have those in them.
func TestDivided(t *testing.T) {
	for _, c := range []struct {
		condition string
		want      map[string]string // by the steps that lead from the statement to the condition
	}{
		{"i > 3", map[string]string{"2": "0 to 1", "20": "0 to 8", "21": "3"}},
		{"i > 8", map[string]string{"2": "0"}},
		{"i >= 0", map[string]string{"2": "1"}},
		{"!(i > 3)", map[string]string{"2": "0 to 1", "20": "0 to 1"}},
		{"!(i > 8)", map[string]string{"2": "1", "20": "0", "200": "0 to 8"}},
		{"i > 3 && i > 2", map[string]string{"2": "0 to 1", "20": "0 to 1", "21": "1", "210": "4 to 8"}},
		{"i > 3 && i < 2", map[string]string{"2": "0", "20": "0 to 1", "21": "0"}},
		{"i > 8 && i < 2", map[string]string{"2": "0", "20": "0", "21": "none", "210": "none"}},
		{"i > 3 || i < 4", map[string]string{"2": "1", "20": "0 to 1", "21": "1"}},
		{"i > 3 || i > 5", map[string]string{"2": "0 to 1", "20": "0 to 1", "21": "0", "210": "0 to 3"}},
		{"i >= 0 || i > 5", map[string]string{"2": "1", "20": "1", "21": "none"}},
		{"b", map[string]string{"2": "0 to 1"}},
		{"b && b", map[string]string{"2": "0 to 1", "20": "0 to 1", "21": "1"}},
		{"b || !b", map[string]string{"2": "1", "20": "0 to 1", "21": "1", "210": "0"}},
		{"true", map[string]string{"2": "1"}},
		{"false", map[string]string{"2": "0"}},
		{"yes(i)", map[string]string{"2": "1", "20": "0 to 8"}},
		{"yes(1 / 0)", map[string]string{"2": "none", "20": "none", "200": "1"}},
		{"1 / 0 == i", map[string]string{"2": "none", "20": "none", "21": "none"}},
		{"i == 1 / 0", map[string]string{"2": "none", "20": "0 to 8", "21": "none"}},
		{"!(i == 1 / 0)", map[string]string{"2": "none", "20": "none"}},
		{"i == 1 / 0 || b", map[string]string{"2": "none", "20": "none", "21": "none"}},
		{"b && i == 1 / 0", map[string]string{"2": "0", "20": "0 to 1", "21": "none"}},
		{"b || i == 1 / 0", map[string]string{"2": "1", "20": "0 to 1", "21": "none"}},
	} {
		p := read(t, "func main() { for i in 0 .. 9 { let b: bool = i == 4; if "+c.condition+" { } } } func yes(n: int): bool { return n < 50; }")
		for steps, want := range c.want {
			path := []int{0, 0, 0, 1}
			for _, step := range steps {
				path = append(path, int(step-'0'))
			}
			r, some, e := defined.Values(p, path)
			if got := showRange(r, some); got != want || e != api.OK {
				t.Errorf("%s, %s: %s, error %d, want %s", c.condition, steps, got, e, want)
			}
		}
	}
}
