package lower_test

import (
	"fmt"
	"testing"

	"cupel/api"
	"cupel/gen"
	"cupel/irsem"
	"cupel/lower"
	"cupel/sem"
)

// run returns what a module does with so many steps.
func run(t *testing.T, m api.Module, steps int) api.Behaviour {
	t.Helper()
	b, e := irsem.Run(m, steps)
	if e != api.OK {
		t.Fatalf("Run with %d steps: error %d\n%+v", steps, e, m)
	}
	return b
}

// compare runs a program and its module, and says how they end.
func compare(t *testing.T, p api.Program, steps int, seen ends) {
	t.Helper()
	b, used, _, e := sem.Run(p, steps)
	m, wrong := lower.Lower(p, with())
	if e != api.OK {
		t.Fatalf("%s\nRun: error %d", text(p), e)
	}
	if b.End == api.EnUndefined || wrong == api.ErrLong {
		return
	}
	c := run(t, m, 200*used+1000)
	if !irsem.Agree(b, c) || b.End != api.EnSteps && fmt.Sprint(b) != fmt.Sprint(c) {
		t.Fatalf("%s\ndoes %v in %d steps, its module %v\n%s", text(p), b, used, c, lowered(t, p))
	}
	seen[fmt.Sprint(b.End, b.Code)]++
}

// P9.3: modules do what their programs do, in at most 200 s + 1000 steps where those need s; if those are cut short, both agree.
func TestMeaning(t *testing.T) {
	seen := ends{}
	programs(t, 1500, func(p api.Program) {
		compare(t, p, api.MaxSteps, seen)
		compare(t, p, 40, seen)
	})
	seen.expect(t, 10, "1 0", "2 1", "2 2", "2 3", "4 0")
}

// P9.3: so do modules of programs that are generated.
func TestMeaningGenerated(t *testing.T) {
	seen := ends{}
	for seed := range uint64(200) {
		p, e := gen.Generate(api.Plan{Seed: seed, Funcs: int(seed % 5), Stmts: 5 + int(seed%30), Depth: int(seed % 4)})
		if e == api.OK {
			compare(t, p, api.MaxSteps, seen)
		}
	}
	if seen["1 0"] < 50 || seen["3 1"]+seen["3 2"] > 0 {
		t.Errorf("ends: %v", seen)
	}
}

// P9.3: what is told apart by order alone, in programs that say so.
func TestMeaningOfOrder(t *testing.T) {
	for _, c := range []struct{ program, want string }{
		{"global g: int = 1; func f(): int { g = g + 1; return g; } func main() { print g * 10 + f(); print f() * 10 + g; print g; }", "[12 33 3] 1 0"},
		{"global g: int; func f(x: int): int { print x; g = x; return x; } func main() { print f(1) > f(2); print f(3) >= f(3); print g - f(4); }", "[1 2 0 3 3 1 4 -1] 1 0"},
		{"func f(x: int): bool { print x; return x > 1; } func main() { print f(0) && f(1); print f(2) && f(1); print f(2) || f(3); print f(0) || f(5); }", "[0 0 2 1 0 2 1 0 5 1] 1 0"},
		{"func f(): int { print 7; return 5; } func main() { let a: int[2]; a[2 + 1] = f(); }", "[7] 2 2"},
		{"func f(): int { print 7; return 5; } func main() { let a: int[2]; a[1 / 0] = f(); }", "[] 2 1"},
		{"func main() { let n: int = 0; while 1 / (2 - n) >= 0 upto 2 { n = n + 1; } print n; }", "[] 2 1"},
		{"func main() { let n: int = 0; while 1 / (3 - n) >= 0 upto 2 { n = n + 1; continue; } print n; }", "[2] 1 0"},
		{"func main() { let n: int = 3; for i in 0 .. n { n = 9; print i; if i == 1 { continue; } } for i in 5 .. 5 { print i; } for i in 9223372036854775806 .. 9223372036854775807 { print i; } }", "[0 1 2 9223372036854775806] 1 0"},
		{"func main() { for k in 0 .. 2 { let a: small[2]; let x: int; x = k; print int(a[1]) + x; a[1] = 255s; a[1] = a[1] + 3s; print a[1]; } }", "[0 2 1 2] 1 0"},
		{"func f(a: int[2], b: int[2]) { a[0] = 1; b[0] = 2; b[1] = 3; } func main() { let x: int[2]; let y: int[2]; f(y, x); print x[0]; print x[1]; print y[0]; f(x, y); print x[0]; }", "[2 3 1 1] 1 0"},
		{"func main() { for i in 0 .. 4 { for j in 0 .. 4 { if j == 2 { break; } if i == 1 { continue; } print 10 * i + j; } if i == 2 { break; } } trap; }", "[0 1 20 21] 2 3"},
		{"func f(x: int): int { while true upto 5 { if x > 3 { return x; } x = x + 1; } return -1; } func main() { print f(0); print f(9); print f(-9); }", "[4 9 -1] 1 0"},
		{"func main() { let x: small = 0s; print -x; print ~x; print -(x + 1s); print (x - 1s) >> 4s; print (x - 1s) << 4s; print small(-1) * 3s; print int(small(-1)); }", "[0 255 255 15 240 253 255] 1 0"},
	} {
		p := read(t, c.program)
		m, e := lower.Lower(p, with())
		b := run(t, m, 1000)
		if got := fmt.Sprint(b.Out, b.End, b.Code); got != c.want || e != api.OK {
			t.Errorf("%s\ndoes %s (error %d), want %s", c.program, got, e, c.want)
		}
		compare(t, p, api.MaxSteps, ends{})
	}
}

// P9.3: with each number of steps, from none to more than a program takes.
func TestMeaningOfAllSteps(t *testing.T) {
	seen := ends{}
	programs(t, 80, func(p api.Program) {
		_, used, _, _ := sem.Run(p, 200)
		for steps := range used + 3 {
			compare(t, p, steps, seen)
		}
	})
	if seen["1 0"] < 50 || seen["4 0"] < 1000 {
		t.Errorf("ends: %v", seen)
	}
}

// P9.3: programs that print as much as they may, or more, or take all steps.
func TestMeaningOfLongRuns(t *testing.T) {
	for _, c := range []struct {
		program string
		out     int
		end     int
	}{
		{"func main() { for i in 0 .. 2000 { print i; } }", 2000, api.EnDone},
		{"func main() { for i in 0 .. 2001 { print i; } }", 2000, api.EnSteps},
		{"func main() { for i in 0 .. 2000 { print i; } trap; }", 2000, api.EnTrap},
		{"func main() { let n: int = 0; while true upto 1000 { while true upto 1000 { while true upto 1000 { n = n + 1; print n & 1; } } } }", 2000, api.EnSteps},
		{"func main() { while true upto 1000 { while true upto 1000 { } } }", 0, api.EnSteps},
		{"func main() { for i in 0 .. 6000 { let a: small[16]; let b: int[16]; let c: int[16]; } print 1; }", 0, api.EnSteps},
		{"func main() { for i in 0 .. 4000 { let a: small[16]; let b: int[16]; let c: int[16]; } print 1; }", 1, api.EnDone},
		{"func f() { } func main() { for i in 0 .. 6000 { f(); } print 1; }", 1, api.EnDone},
	} {
		p := read(t, c.program)
		if b, _, _, e := sem.Run(p, api.MaxSteps); e != api.OK || len(b.Out) != c.out || b.End != c.end {
			t.Errorf("%s\ndoes %v (error %d)", c.program, b, e)
		}
		compare(t, p, api.MaxSteps, ends{})
	}
}
