package lower_test

import (
	"fmt"
	"math"
	"testing"

	"cupel/api"
	"cupel/gen"
	"cupel/lower"
	"cupel/sem"
)

// runner does what a module says, as far as modules of programs go: without phis.
type runner struct {
	m           api.Module
	cells       []int64
	arrays      [][]int64
	steps       int
	out         []int64
	end, code   int
	interrupted bool
}

// run returns what a module does with so many steps.
func run(m api.Module, steps int) api.Behaviour {
	r := &runner{m: m, steps: steps, end: api.EnDone}
	for _, c := range m.Cells {
		r.cells = append(r.cells, c.Init)
	}
	for _, a := range m.Arrays {
		r.arrays = append(r.arrays, make([]int64, a.Len))
	}
	r.call(m.Main, nil, nil)
	return api.Behaviour{Out: r.out, End: r.end, Code: r.code}
}

func (r *runner) stop(end, code int) { r.end, r.code, r.interrupted = end, code, true }

// step reports whether one more may be made.
func (r *runner) step() bool {
	if !r.interrupted && r.steps == 0 {
		r.stop(api.EnSteps, 0)
	}
	r.steps--
	return !r.interrupted
}

// activation is a call that has not come to its end.
type activation struct {
	*runner
	f      api.IFunc
	regs   []int64
	arrays [][]int64
}

func (r *runner) call(i int, args []int64, given [][]int64) int64 {
	a := &activation{runner: r, f: r.m.Funcs[i], regs: make([]int64, r.m.Funcs[i].Regs)}
	copy(a.regs, args)
	for _, x := range a.f.Arrays {
		switch x.Kind {
		case api.AyLocal:
			a.arrays = append(a.arrays, make([]int64, x.Len))
		case api.AyParam:
			a.arrays, given = append(a.arrays, given[0]), given[1:]
		case api.AyGlobal:
			a.arrays = append(a.arrays, r.arrays[x.Global])
		}
	}
	for block := 0; block >= 0; {
		for _, x := range a.f.Blocks[block].Code {
			if !r.step() {
				return 0
			}
			a.do(x)
		}
		end := a.f.Blocks[block].End
		if !r.step() {
			return 0
		}
		switch end.Op {
		case api.TmReturn:
			if a.f.Result {
				return a.value(end.A)
			}
			return 0
		case api.TmTrap:
			r.stop(api.EnTrap, api.TrStated)
			return 0
		case api.TmBranch:
			if a.value(end.A) == 0 {
				end.To = end.Else
			}
		}
		block = end.To
	}
	return 0
}

func (a *activation) value(x api.Opd) int64 {
	if x.Reg < 0 {
		return x.Imm
	}
	return a.regs[x.Reg]
}

func (a *activation) small(i int) bool {
	x := a.f.Arrays[i]
	return x.Small || x.Kind == api.AyGlobal && a.m.Arrays[x.Global].Small
}

func (a *activation) do(x api.Instr) {
	switch v := a.value; x.Op {
	case api.IxCopy:
		a.regs[x.To] = v(x.A)
	case api.IxBin:
		a.regs[x.To] = a.operation(x.Kind, v(x.A), v(x.B))
	case api.IxCheck:
		if v(x.A) < 0 || v(x.A) >= v(x.B) {
			a.stop(api.EnTrap, api.TrIndex)
		}
	case api.IxLoad:
		a.regs[x.To] = a.arrays[x.Array][v(x.A)]
	case api.IxStore:
		a.arrays[x.Array][v(x.A)] = v(x.B)
		if a.small(x.Array) {
			a.arrays[x.Array][v(x.A)] = v(x.B) & 255
		}
	case api.IxGet:
		a.regs[x.To] = a.cells[x.Cell]
	case api.IxPut:
		a.cells[x.Cell] = v(x.A)
	case api.IxPrint:
		if len(a.out) == api.MaxOut {
			a.stop(api.EnSteps, 0)
			return
		}
		a.out = append(a.out, v(x.A))
	case api.IxCall:
		var args []int64
		var given [][]int64
		for _, arg := range x.Args {
			args = append(args, v(arg))
		}
		for _, i := range x.Arrays {
			given = append(given, a.arrays[i])
		}
		if result := a.call(x.Func, args, given); x.To >= 0 {
			a.regs[x.To] = result
		}
	default:
		panic(fmt.Sprint("operation ", x.Op))
	}
}

func (a *activation) operation(kind int, x, y int64) int64 {
	truth := map[int]bool{api.IbEq: x == y, api.IbNe: x != y, api.IbLt: x < y, api.IbLe: x <= y}
	if truth[kind] {
		return 1
	}
	switch kind {
	case api.IbAdd:
		return x + y
	case api.IbSub:
		return x - y
	case api.IbMul:
		return x * y
	case api.IbDiv, api.IbRem:
		if y == 0 {
			a.stop(api.EnTrap, api.TrDivide)
			return 0
		}
		if x == math.MinInt64 && y == -1 {
			panic("undefined")
		}
		if kind == api.IbDiv {
			return x / y
		}
		return x % y
	case api.IbAnd:
		return x & y
	case api.IbOr:
		return x | y
	case api.IbXor:
		return x ^ y
	case api.IbShl:
		return x << (y & 63)
	case api.IbShr:
		return x >> (y & 63)
	}
	return 0
}

// compare runs a program and its module, and says how they end.
func compare(t *testing.T, p api.Program, steps int, seen ends) {
	t.Helper()
	b, used, _, e := sem.Run(p, steps)
	m, wrong := lower.Lower(p, with())
	if e != api.OK {
		t.Fatalf("%s\nRun: error %d", text(p), e)
	}
	if b.End == api.EnUndefined || wrong == api.ErrLong {
		return
	}
	c := run(m, 200*used+1000)
	if !sem.Agree(b, c) || b.End != api.EnSteps && fmt.Sprint(b) != fmt.Sprint(c) {
		t.Fatalf("%s\ndoes %v in %d steps, its module %v\n%s", text(p), b, used, c, lowered(t, p))
	}
	seen[fmt.Sprint(b.End, b.Code)]++
}

// P9.1: modules do what their programs do, but in at most 200 s + 1000 steps where those need s.
func TestMeaning(t *testing.T) {
	seen := ends{}
	programs(t, 1500, func(p api.Program) {
		compare(t, p, api.MaxSteps, seen)
		compare(t, p, 40, seen)
	})
	seen.expect(t, 10, "1 0", "2 1", "2 2", "2 3", "4 0")
}

// P9.1: so do modules of programs that are generated.
func TestMeaningGenerated(t *testing.T) {
	seen := ends{}
	for seed := range uint64(200) {
		p, e := gen.Generate(api.Plan{Seed: seed, Funcs: int(seed % 5), Stmts: 5 + int(seed%30), Depth: int(seed % 4)})
		if e == api.OK {
			compare(t, p, api.MaxSteps, seen)
		}
	}
	if seen["1 0"] < 50 || seen["3 1"]+seen["3 2"] > 0 {
		t.Errorf("ends: %v", seen)
	}
}

// P9.1: what is told apart by order alone, in programs that say so.
func TestMeaningOfOrder(t *testing.T) {
	for _, c := range []struct{ program, want string }{
		{"global g: int = 1; func f(): int { g = g + 1; return g; } func main() { print g * 10 + f(); print f() * 10 + g; print g; }", "[12 33 3] 1 0"},
		{"global g: int; func f(x: int): int { print x; g = x; return x; } func main() { print f(1) > f(2); print f(3) >= f(3); print g - f(4); }", "[1 2 0 3 3 1 4 -1] 1 0"},
		{"func f(x: int): bool { print x; return x > 1; } func main() { print f(0) && f(1); print f(2) && f(1); print f(2) || f(3); print f(0) || f(5); }", "[0 0 2 1 0 2 1 0 5 1] 1 0"},
		{"func f(): int { print 7; return 5; } func main() { let a: int[2]; a[2 + 1] = f(); }", "[7] 2 2"},
		{"func f(): int { print 7; return 5; } func main() { let a: int[2]; a[1 / 0] = f(); }", "[] 2 1"},
		{"func main() { let n: int = 0; while 1 / (2 - n) >= 0 upto 2 { n = n + 1; } print n; }", "[] 2 1"},
		{"func main() { let n: int = 0; while 1 / (3 - n) >= 0 upto 2 { n = n + 1; continue; } print n; }", "[2] 1 0"},
		{"func main() { let n: int = 3; for i in 0 .. n { n = 9; print i; if i == 1 { continue; } } for i in 5 .. 5 { print i; } for i in 9223372036854775806 .. 9223372036854775807 { print i; } }", "[0 1 2 9223372036854775806] 1 0"},
		{"func main() { for k in 0 .. 2 { let a: small[2]; let x: int; x = k; print int(a[1]) + x; a[1] = 255s; a[1] = a[1] + 3s; print a[1]; } }", "[0 2 1 2] 1 0"},
		{"func f(a: int[2], b: int[2]) { a[0] = 1; b[0] = 2; b[1] = 3; } func main() { let x: int[2]; let y: int[2]; f(y, x); print x[0]; print x[1]; print y[0]; f(x, y); print x[0]; }", "[2 3 1 1] 1 0"},
		{"func main() { for i in 0 .. 4 { for j in 0 .. 4 { if j == 2 { break; } if i == 1 { continue; } print 10 * i + j; } if i == 2 { break; } } trap; }", "[0 1 20 21] 2 3"},
		{"func f(x: int): int { while true upto 5 { if x > 3 { return x; } x = x + 1; } return -1; } func main() { print f(0); print f(9); print f(-9); }", "[4 9 -1] 1 0"},
		{"func main() { let x: small = 0s; print -x; print ~x; print -(x + 1s); print (x - 1s) >> 4s; print (x - 1s) << 4s; print small(-1) * 3s; print int(small(-1)); }", "[0 255 255 15 240 253 255] 1 0"},
	} {
		p := read(t, c.program)
		m, e := lower.Lower(p, with())
		b := run(m, 1000)
		if got := fmt.Sprint(b.Out, b.End, b.Code); got != c.want || e != api.OK {
			t.Errorf("%s\ndoes %s (error %d), want %s", c.program, got, e, c.want)
		}
		compare(t, p, api.MaxSteps, ends{})
	}
}
