package ssa_test

import (
	"fmt"
	"math/rand/v2"
	"slices"
	"strings"
	"testing"

	"cupel/api"
	"cupel/ir"
	"cupel/samples"
	"cupel/ssa"
)

// modules calls look with many modules, with phis or without.
func modules(t *testing.T, count int, phis bool, look func(m api.Module)) {
	t.Helper()
	for seed := range uint64(count) {
		look(read(t, makeModule(seed, phis)))
	}
}

// former gives a function other registers and operands, so that it is in static single assignment form.
type former struct {
	*rand.Rand
	f *api.IFunc
	g api.Graph
}

// inForm calls look with many modules all of whose functions are in static single assignment form.
func inForm(t *testing.T, count int, look func(m api.Module)) {
	t.Helper()
	dice := random(20)
	modules(t, count, true, func(m api.Module) {
		for k := range m.Funcs {
			former{dice, &m.Funcs[k], graph(t, m, k)}.form()
			if e := ssa.Check(m, k); e != api.OK {
				t.Fatalf("%s\n%d is not in the form: %d", text(m), k, e)
			}
		}
		look(m)
	})
}

// form gives each instruction a register of its own, and then draws all operands anew.
func (d former) form() {
	f := d.f
	f.Regs = f.Params
	for b := range f.Blocks {
		for i := range f.Blocks[b].Code {
			if x := &f.Blocks[b].Code[i]; x.To >= 0 {
				x.To = f.Regs
				f.Regs++
			}
		}
	}
	for b := range f.Blocks {
		for i, x := range f.Blocks[b].Code {
			list := modelOperands(x)
			for j := range list {
				if x.Op == api.IxPhi {
					list[j] = d.operand(b, behind(*f, x.From[j]), true)
				} else {
					list[j] = d.operand(b, site{b, i}, false)
				}
			}
			f.Blocks[b].Code[i] = withOperands(x, list)
		}
		for range endOperand(*f, b) {
			f.Blocks[b].End.A = d.operand(b, behind(*f, b), false)
		}
	}
	f.Regs += d.IntN(3)
}

// operand draws an operand of a block for a site: for phis most often what a phi of the block defines, or one of another block.
func (d former) operand(b int, at site, byPhi bool) api.Opd {
	var lists [3][]api.Opd
	reached := slices.Contains(d.g.Order, b) && slices.Contains(d.g.Order, at.block)
	for r := range d.f.Regs {
		o := api.Opd{Reg: r}
		if reached && !isDefined(*d.f, d.g, o, at) {
			continue
		}
		lists[0] = append(lists[0], o)
		for _, s := range sitesOf(*d.f, r) {
			if d.f.Blocks[s.block].Code[s.index].Op != api.IxPhi {
				continue
			}
			lists[1] = append(lists[1], o)
			if s.block == b {
				lists[2] = append(lists[2], o)
			}
		}
	}
	for i := 2; i >= 0; i-- {
		if list := lists[i]; (byPhi || i == 0) && len(list) > 0 && d.IntN(5) > 0 {
			return list[d.IntN(len(list))]
		}
	}
	return api.Opd{Reg: -1, Imm: int64(d.IntN(5)) - 2}
}

// P12.1: functions of all kinds.
func TestMadeChecks(t *testing.T) {
	seen := map[api.Errno]int{}
	expect := func(m api.Module) {
		for k := range m.Funcs {
			want := modelCheck(m, k)
			check(t, m, k, want)
			seen[want]++
		}
	}
	modules(t, 100, true, expect)
	dice := random(21)
	inForm(t, 300, func(m api.Module) {
		k := dice.IntN(len(m.Funcs))
		change(dice, &m.Funcs[k])
		expect(m)
	})
	if seen[api.OK] < 400 || seen[api.ErrDown] < 200 {
		t.Errorf("results: %v", seen)
	}
}

// change gives an instruction, or an end, of a function another register as an operand, or as what it defines.
func change(dice *rand.Rand, f *api.IFunc) {
	block := &f.Blocks[dice.IntN(len(f.Blocks))]
	if f.Regs == 0 {
		return
	}
	r := dice.IntN(f.Regs)
	if len(block.Code) == 0 {
		if block.End.Op == api.TmBranch {
			block.End.A = api.Opd{Reg: r}
		}
		return
	}
	x := &block.Code[dice.IntN(len(block.Code))]
	if list := modelOperands(*x); len(list) > 0 && dice.IntN(4) > 0 {
		list[dice.IntN(len(list))] = api.Opd{Reg: r}
		*x = withOperands(*x, list)
	} else if x.To >= 0 {
		x.To = r
	}
}

// expectMade compares what a pass makes of a function, if it is not too long, with what the model says.
func (p pass) expectMade(t *testing.T, m api.Module, k int, x api.Limit, want api.Module, long bool) (api.Module, bool) {
	t.Helper()
	if long {
		p.fail(t, m, k, x, api.ErrLong)
		return m, false
	}
	made := p.make(t, m, k, x)
	if !ir.Same(made, want) {
		t.Fatalf("%s\n%s of %d, %v: is\n%s\nwant\n%s", text(m), p.name, k, x, text(made), text(want))
	}
	return made, true
}

// count adds up phis, and copies to registers that a function did not have before.
func count(m api.Module, k, regs int) (phis, saved int) {
	for _, b := range m.Funcs[k].Blocks {
		for _, x := range b.Code {
			if x.Op == api.IxPhi {
				phis++
			}
			if x.To >= regs {
				saved++
			}
		}
	}
	return phis, saved
}

// P12.2: functions of all kinds.
func TestMadeInto(t *testing.T) {
	phis := 0
	expect := func(m api.Module) {
		for k := range m.Funcs {
			for fault := range int64(2) {
				x := all()
				if fault == 1 {
					x = all(api.FtUndefined)
				}
				want, long := modelInto(m, k, fault)
				made, _ := into.expectMade(t, m, k, x, want, long)
				n, _ := count(made, k, api.MaxRegs)
				phis += n
			}
		}
	}
	modules(t, 400, false, expect)
	samples.Lowered(60, expect)
	if phis < 4000 {
		t.Errorf("%d phis", phis)
	}
}

// P12.3: functions of all kinds.
func TestMadeOut(t *testing.T) {
	phis, saved := 0, 0
	expect := func(m api.Module) {
		for k, f := range m.Funcs {
			want, long := modelOut(m, k, false)
			made, _ := out.expectMade(t, m, k, all(), want, long)
			_, n := count(made, k, f.Regs)
			saved += n
			want, long = modelOut(m, k, true)
			out.expectMade(t, m, k, all(api.FtOneByOne), want, long)
			n, _ = count(m, k, f.Regs)
			phis += n
		}
	}
	inForm(t, 300, expect)
	samples.Lowered(40, func(m api.Module) {
		for k := range m.Funcs {
			if made, _, e := ssa.Into(m, k, all()); e == api.OK {
				m = made
			}
		}
		for k := range m.Funcs {
			if ssa.Check(m, k) == api.OK {
				want, long := modelOut(m, k, false)
				out.expectMade(t, m, k, all(), want, long)
			}
		}
	})
	if phis < 2000 || saved < 200 {
		t.Errorf("%d phis, %d registers saved", phis, saved)
	}
}

// P12.4: functions of all kinds.
func TestMadeTidy(t *testing.T) {
	kept, gone := 0, 0
	expect := func(m api.Module) {
		for k, f := range m.Funcs {
			made, _ := tidy.expectMade(t, m, k, all(), modelTidy(m, k), false)
			kept += len(made.Funcs[k].Blocks)
			gone += len(f.Blocks) - len(made.Funcs[k].Blocks)
		}
	}
	modules(t, 600, true, expect)
	modules(t, 200, false, expect)
	inForm(t, 100, expect)
	samples.Lowered(60, expect)
	if kept < 4000 || gone < 4000 {
		t.Errorf("%d blocks, %d are left out", kept, gone)
	}
}

// longFunction is a module of one function of many blocks, which often lead to the next one.
func longFunction(t *testing.T, dice *rand.Rand) api.Module {
	t.Helper()
	blocks, regs := 20+dice.IntN(41), 1+dice.IntN(6)
	style := dice.IntN(3)
	var s strings.Builder
	reg := func() string { return fmt.Sprint("r", dice.IntN(regs)) }
	for b := range blocks {
		fmt.Fprintf(&s, "b%d: ", b)
		for range dice.IntN(4) {
			fmt.Fprintf(&s, "%s = add %s, %s; ", reg(), reg(), reg())
		}
		next, other := min(b+1, blocks-1), 1+dice.IntN(blocks-1)
		if style == 1 {
			other = max(1, b-dice.IntN(6))
		}
		switch kind := dice.IntN(12); {
		case kind == 0 && style == 2 || b == blocks-1:
			fmt.Fprintf(&s, "print %s; return; ", reg())
		case kind < 4:
			fmt.Fprintf(&s, "jump b%d; ", next)
		case kind == 5:
			fmt.Fprintf(&s, "jump b%d; ", other)
		case kind < 8:
			fmt.Fprintf(&s, "branch %s, b%d, b%d; ", reg(), other, next)
		default:
			fmt.Fprintf(&s, "branch %s, b%d, b%d; ", reg(), next, other)
		}
	}
	return of(t, fmt.Sprintf("params %d regs %d", dice.IntN(regs), regs), s.String())
}

// P12.2 to P12.4: functions of up to 60 blocks.
func TestLongFunctions(t *testing.T) {
	dice := random(23)
	done := map[string]int{}
	for range 150 {
		m := longFunction(t, dice)
		tidy.expectMade(t, m, 0, all(), modelTidy(m, 0), false)
		want, long := modelInto(m, 0, 0)
		made, ok := into.expectMade(t, m, 0, all(), want, long)
		if !ok {
			continue
		}
		done["into"]++
		tidy.expectMade(t, made, 0, all(), modelTidy(made, 0), false)
		want, long = modelOut(made, 0, false)
		if _, ok := out.expectMade(t, made, 0, all(), want, long); ok {
			done["out"]++
		}
	}
	if done["into"] < 60 || done["out"] < 20 {
		t.Errorf("%v", done)
	}
}
