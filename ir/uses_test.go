package ir_test

import (
	"math"
	"slices"
	"testing"

	"cupel/api"
	"cupel/ir"
)

// P8.4: the registers of the operands that an Op names, and To.
func TestUses(t *testing.T) {
	all := api.Instr{To: 9, A: reg(1), B: reg(2), Array: 3, Cell: 4, Func: 5, Args: []api.Opd{reg(6), num(0), reg(0), reg(6)}, Arrays: []int{7}, From: []int{8}}
	for _, c := range []struct {
		op   int
		regs []int
		to   int
	}{
		{api.IxCopy, []int{1}, 9}, {api.IxBin, []int{1, 2}, 9}, {api.IxCheck, []int{1, 2}, -1}, {api.IxLoad, []int{1}, 9}, {api.IxStore, []int{1, 2}, -1},
		{api.IxGet, nil, 9}, {api.IxPut, []int{1}, -1}, {api.IxPrint, []int{1}, -1}, {api.IxCall, []int{6, 0, 6}, 9}, {api.IxPhi, []int{6, 0, 6}, 9},
		{0, nil, -1}, {-1, nil, -1}, {11, nil, -1}, {math.MinInt, nil, -1}, {math.MaxInt, nil, -1},
	} {
		for kind := range 20 { // whatever the other fields are
			x := all
			x.Op, x.Kind = c.op, kind-2
			expectUses(t, x, c.regs, c.to)
			x.To = -1
			expectUses(t, x, c.regs, -1)
			x.To = -5
			expectUses(t, x, c.regs, -1)
			x.To = math.MinInt
			expectUses(t, x, c.regs, -1)
			x.To = 0
			expectUses(t, x, c.regs, min(c.to, 0))
		}
	}
}

func expectUses(t *testing.T, x api.Instr, regs []int, to int) {
	t.Helper()
	gotRegs, gotTo := ir.Uses(x)
	if !slices.Equal(gotRegs, regs) || gotTo != to {
		t.Errorf("Uses(%+v): %v, %d, want %v, %d", x, gotRegs, gotTo, regs, to)
	}
}

// P8.4: each time they occur, in order; constants are none.
func TestUsesOrder(t *testing.T) {
	bin := func(a, b api.Opd) api.Instr {
		return api.Instr{Op: api.IxBin, Kind: api.IbSub, To: 2, A: a, B: b}
	}
	expectUses(t, bin(reg(0), reg(0)), []int{0, 0}, 2)
	expectUses(t, bin(reg(5), reg(3)), []int{5, 3}, 2)
	expectUses(t, bin(reg(2), reg(300)), []int{2, 300}, 2)
	expectUses(t, bin(num(5), reg(3)), []int{3}, 2)
	expectUses(t, bin(reg(5), num(3)), []int{5}, 2)
	expectUses(t, bin(num(5), num(0)), nil, 2)
	expectUses(t, bin(reg(math.MaxInt), reg(1)), []int{math.MaxInt, 1}, 2)
	expectUses(t, api.Instr{Op: api.IxCall, To: -1}, nil, -1)
	expectUses(t, api.Instr{Op: api.IxPhi, To: 3}, nil, 3)
	expectUses(t, api.Instr{Op: api.IxCall, To: -1, Args: []api.Opd{num(1), num(2)}, Arrays: []int{4}}, nil, -1)
	many := make([]api.Opd, 1000)
	want := make([]int, 1000)
	for i := range many {
		many[i], want[i] = reg(1000-i), 1000-i
	}
	expectUses(t, api.Instr{Op: api.IxPhi, To: 0, Args: many}, want, 0)
}
