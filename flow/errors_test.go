package flow_test

import (
	"slices"
	"testing"

	"cupel/api"
	"cupel/flow"
	"cupel/ir"
)

// P11.1 to P11.4: k must be the index of a function.
func TestNoFunction(t *testing.T) {
	one := withEnds(t, "jump b1", "return")
	three := read(t, "main f; func g params 1 regs 1 { b0: return; b1: return; } func f params 0 regs 0 { b0: return; b1: return; } func h params 0 regs 0 { b0: return; b1: return; }")
	for _, k := range []int{least, -2, -1, 1, 2, 100, greatest} {
		expectErrors(t, one, k, api.ErrArg)
	}
	for _, k := range []int{-1, 3, 4} {
		expectErrors(t, three, k, api.ErrArg)
	}
	for k := range three.Funcs {
		graph(t, three, k)
		loops(t, three, k)
		live(t, three, k)
		dominates(t, three, k, 1, 0)
	}
}

// P11.2: a and b must be indices of blocks of this function.
func TestNoBlock(t *testing.T) {
	m := read(t, "main f; func f params 0 regs 0 { b0: jump b1; b1: return; b2: return; } func g params 0 regs 0 { b0: return; }")
	for _, b := range []int{least, -2, -1, 3, 4, 60, 100, greatest} {
		for _, other := range []int{-1, 0, 1, 2, 3} {
			expectNoBlock(t, m, 0, b, other, api.ErrArg)
			expectNoBlock(t, m, 0, other, b, api.ErrArg)
		}
	}
	expectNoBlock(t, m, 1, 0, 1, api.ErrArg)
	expectNoBlock(t, m, 1, 1, 0, api.ErrArg)
	for b := range 3 {
		dominates(t, m, 0, b, 2)
		dominates(t, m, 0, 2, b)
	}
	dominates(t, m, 1, 0, 0)
}

// P11.1 to P11.4: the error of ir.Check comes first, whatever the other arguments are.
func TestNotValid(t *testing.T) {
	valid := read(t, "main f; func f params 0 regs 1 { b0: jump b1; b1: return; }")
	changes := []func(m *api.Module, f *api.IFunc){
		func(m *api.Module, f *api.IFunc) { f.Blocks = make([]api.Block, api.MaxIBlocks+1) },
		func(m *api.Module, f *api.IFunc) { f.Regs = api.MaxRegs + 1 },
		func(m *api.Module, f *api.IFunc) { m.Funcs = nil },
		func(m *api.Module, f *api.IFunc) { m.Main = 1 },
		func(m *api.Module, f *api.IFunc) { f.Name = "1" },
		func(m *api.Module, f *api.IFunc) { f.Blocks = nil },
		func(m *api.Module, f *api.IFunc) { f.Blocks[0].End.To = 2 },
		func(m *api.Module, f *api.IFunc) { f.Blocks[0].End.To = -1 },
		func(m *api.Module, f *api.IFunc) { f.Blocks[0].End.To = 0 },
		func(m *api.Module, f *api.IFunc) { f.Blocks[1].End.Op = 0 },
		func(m *api.Module, f *api.IFunc) { f.Blocks[1].Code = []api.Instr{{Op: api.IxPhi, To: 0}} },
		func(m *api.Module, f *api.IFunc) {
			f.Blocks[1].Code = []api.Instr{{Op: api.IxPrint, To: -1, A: api.Opd{Reg: 1}}}
		},
		func(m *api.Module, f *api.IFunc) {
			f.Blocks[1].Code = []api.Instr{{Op: api.IxPrint, To: -1, A: api.Opd{Reg: -2}}}
		},
		func(m *api.Module, f *api.IFunc) { f.Blocks[1].Code = []api.Instr{{Op: api.IxGet, To: 300}} },
		func(m *api.Module, f *api.IFunc) {
			f.Blocks[1].Code = []api.Instr{{Op: api.IxCall, To: -1}}
		},
	}
	for i, change := range changes {
		m := valid
		m.Funcs = slices.Clone(valid.Funcs)
		m.Funcs[0].Blocks = slices.Clone(valid.Funcs[0].Blocks)
		change(&m, &m.Funcs[0:1:1][0])
		want := ir.Check(m)
		if want == api.OK || want == api.ErrLong != (i < 2) {
			t.Fatalf("%d: error %d", i, want)
		}
		for _, k := range []int{-1, 0, 1} {
			expectErrors(t, m, k, want)
		}
	}
	expectErrors(t, api.Module{}, 0, api.ErrArg)
}

// P11.1 to P11.4: another function that is not valid is an error, too.
func TestOtherNotValid(t *testing.T) {
	m := read(t, "main f; func f params 0 regs 0 { b0: jump b1; b1: return; } func g params 0 regs 0 { b0: return; }")
	m.Funcs[1].Blocks = make([]api.Block, api.MaxIBlocks+1)
	for k := range 3 {
		expectErrors(t, m, k, api.ErrLong)
	}
	if is, e := flow.Dominates(m, 5, 7, 9); is || e != api.ErrLong {
		t.Errorf("%v, %d", is, e)
	}
}
