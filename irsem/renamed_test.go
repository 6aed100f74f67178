package irsem_test

import (
	"fmt"
	"testing"

	"cupel/api"
	"cupel/ir"
)

// rename gives everything other names.
func rename(m api.Module) {
	name := func(i int) string { return fmt.Sprintf("Z%d_", 99-i) }
	for i := range m.Cells {
		m.Cells[i].Name = name(i)
	}
	for i := range m.Arrays {
		m.Arrays[i].Name = name(i)
	}
	for i := range m.Funcs {
		m.Funcs[i].Name = name(i)
	}
}

// instrs returns all instructions of functions.
func instrs(funcs ...api.IFunc) []*api.Instr {
	var all []*api.Instr
	for _, f := range funcs {
		for _, b := range f.Blocks {
			for i := range b.Code {
				all = append(all, &b.Code[i])
			}
		}
	}
	return all
}

// reorder puts the function i at the place to[i].
func reorder(m *api.Module, to []int) {
	funcs := make([]api.IFunc, len(m.Funcs))
	for i, f := range m.Funcs {
		funcs[to[i]] = f
	}
	for _, x := range instrs(funcs...) {
		if x.Op == api.IxCall {
			x.Func = to[x.Func]
		}
	}
	m.Funcs, m.Main = funcs, to[m.Main]
}

// renumber gives a function so many registers, and each of its own the number that is said.
func renumber(f *api.IFunc, regs int, number func(reg int) int) {
	f.Regs = regs
	opd := func(x *api.Opd) {
		if x.Reg >= 0 {
			x.Reg = number(x.Reg)
		}
	}
	for _, x := range instrs(*f) {
		if x.To >= 0 {
			x.To = number(x.To)
		}
		if x.Op != api.IxCall && x.Op != api.IxPhi && x.Op != api.IxGet {
			opd(&x.A)
		}
		if x.Op == api.IxBin || x.Op == api.IxCheck || x.Op == api.IxStore {
			opd(&x.B)
		}
		for i := range x.Args {
			opd(&x.Args[i])
		}
	}
	for i := range f.Blocks {
		end := &f.Blocks[i].End
		if end.Op == api.TmBranch || end.Op == api.TmReturn && f.Result {
			opd(&end.A)
		}
	}
}

// expectSame looks whether two modules do the same and enter the same blocks, where the function i of the first one is the function to[i] of the other one.
func expectSame(t *testing.T, m, other api.Module, to []int) {
	t.Helper()
	if e := ir.Check(other); e != api.OK {
		t.Fatalf("%s\nbecame invalid: %d\n%+v", text(m), e, other)
	}
	for _, steps := range []int{0, 1, 2, 3, 5, 10, 20, 50, 100, 1000} {
		if a, b := run(t, m, steps), run(t, other, steps); !equal(a, b) {
			t.Fatalf("%s\ndoes %s with %d steps,\n%s\ndoes %s", text(m), show(a), steps, text(other), show(b))
		}
		list, others := trace(t, m, steps, 2000), trace(t, other, steps, 2000)
		for i := range list {
			list[i].Func = to[list[i].Func]
		}
		if visits(list) != visits(others) {
			t.Fatalf("%s\nenters %s with %d steps,\n%s\nenters %s", text(m), visits(list), steps, text(other), visits(others))
		}
	}
}

// itself is the order that changes nothing.
func itself(n int) []int {
	list := make([]int, n)
	for i := range list {
		list[i] = i
	}
	return list
}

// P10.6: names do not matter.
func TestNames(t *testing.T) {
	modules(t, 300, func(m api.Module) {
		other := read(t, text(m))
		rename(other)
		expectSame(t, m, other, itself(len(m.Funcs)))
	})
}

// P10.6: the order of the functions does not matter.
func TestOrderOfFunctions(t *testing.T) {
	dice := random(3)
	modules(t, 300, func(m api.Module) {
		other, to := read(t, text(m)), dice.Perm(len(m.Funcs))
		reorder(&other, to)
		expectSame(t, m, other, to)
	})
}

// P10.6: registers that are not used do not matter, also in great numbers.
func TestUnusedRegisters(t *testing.T) {
	dice := random(4)
	modules(t, 300, func(m api.Module) {
		other := read(t, text(m))
		for i := range other.Funcs {
			f := &other.Funcs[i]
			f.Regs += dice.IntN(api.MaxRegs - f.Regs + 1)
		}
		expectSame(t, m, other, itself(len(m.Funcs)))
	})
}

// P10.6: which number a register after the parameters has does not matter.
func TestNumbersOfRegisters(t *testing.T) {
	dice := random(5)
	modules(t, 300, func(m api.Module) {
		other := read(t, text(m))
		for i := range other.Funcs {
			f := &other.Funcs[i]
			regs := f.Regs + dice.IntN(10)
			order := dice.Perm(regs - f.Params)
			renumber(f, regs, func(reg int) int {
				if reg < f.Params {
					return reg
				}
				return f.Params + order[reg-f.Params]
			})
		}
		rename(other)
		expectSame(t, m, other, itself(len(m.Funcs)))
	})
}
