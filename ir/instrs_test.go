package ir_test

import (
	"math"
	"slices"
	"strconv"
	"strings"
	"testing"

	"cupel/api"
	"cupel/ir"
)

// small is a module for one instruction, which gets into the block 0 of f.
const small = "cell c = 0; cell d = 0; array a[4] small; main f; func f params 0 regs 3 { local[2]; global a; b0: trap; } func g params 2 regs 2 result { b0: trap; } func h params 1 regs 1 { param[2]; b0: trap; }"

// fine are instructions that are right, with all the fields that their Op uses.
func fine() []api.Instr {
	return []api.Instr{
		{Op: api.IxCopy, To: 2, A: num(5)},
		{Op: api.IxBin, Kind: api.IbXor, To: 2, A: num(5), B: reg(1)},
		{Op: api.IxCheck, To: -1, A: reg(1), B: num(5)},
		{Op: api.IxLoad, To: 2, A: reg(1), Array: 1},
		{Op: api.IxStore, To: -1, A: reg(1), B: num(5), Array: 1},
		{Op: api.IxGet, To: 2, Cell: 1},
		{Op: api.IxPut, To: -1, A: reg(1), Cell: 1},
		{Op: api.IxPrint, To: -1, A: reg(1)},
		{Op: api.IxCall, To: 2, Func: 1, Args: []api.Opd{reg(1), num(5)}},
		{Op: api.IxCall, To: -1, Func: 2, Args: []api.Opd{reg(1)}, Arrays: []int{0}},
	}
}

// with returns the module small with an instruction in it.
func with(t *testing.T, x api.Instr) api.Module {
	m := read(t, small)
	m.Funcs[0].Blocks[0].Code = []api.Instr{x}
	return m
}

// P8.1: Ops and Kinds.
func TestOps(t *testing.T) {
	for _, op := range []int{math.MinInt, -1, 0, 11, 12, math.MaxInt} {
		expect(t, "Op "+strconv.Itoa(op), with(t, api.Instr{Op: op, To: -1}), api.ErrArg)
		expect(t, "Op "+strconv.Itoa(op), with(t, api.Instr{Op: op, To: 1}), api.ErrArg)
	}
	for _, kind := range []int{math.MinInt, -1, 0, 1, 2, 3, 4, 5, 6, 7, 8, 9, 10, 11, 12, 13, 14, 15, math.MaxInt} {
		expect(t, "Kind "+strconv.Itoa(kind), with(t, api.Instr{Op: api.IxBin, Kind: kind, To: 1, A: num(1), B: num(1)}), okIf(kind >= 1 && kind <= 14))
	}
}

// P8.1: which fields are used, and which values they may have.
func TestFields(t *testing.T) {
	used := map[int]string{
		api.IxCopy: "To A", api.IxBin: "To A B Kind", api.IxCheck: "A B", api.IxLoad: "To A Array", api.IxStore: "A B Array", api.IxGet: "To Cell", api.IxPut: "A Cell", api.IxPrint: "A", api.IxCall: "To Func Args",
	}
	fields := map[string]struct {
		set  func(x *api.Instr, v int)
		none int
		most int // values from 0 to most are right, if the field is used
	}{
		"To":    {func(x *api.Instr, v int) { x.To = v }, -1, 2},
		"A":     {func(x *api.Instr, v int) { x.A = reg(v) }, 0, 2},
		"B":     {func(x *api.Instr, v int) { x.B = reg(v) }, 0, 2},
		"Kind":  {func(x *api.Instr, v int) { x.Kind = v }, 0, 14},
		"Array": {func(x *api.Instr, v int) { x.Array = v }, 0, 1},
		"Cell":  {func(x *api.Instr, v int) { x.Cell = v }, 0, 1},
		"Func":  {func(x *api.Instr, v int) { x.Func = v }, 0, 2},
	}
	for _, x := range fine() {
		expect(t, "a right instruction", with(t, x), api.OK)
		for name, f := range fields {
			for _, v := range []int{math.MinInt, -2, -1, 0, 1, 2, 3, 4, 14, 15, math.MaxInt} {
				y := x
				f.set(&y, v)
				good := v == f.none
				if slices.Contains(strings.Fields(used[x.Op]), name) {
					good = v >= 0 && v <= f.most || v == -1 && (name == "A" || name == "B")
				}
				switch {
				case name == "Kind" && x.Op == api.IxBin:
					good = v >= 1 && v <= 14
				case x.Op == api.IxCall && name == "To":
					good = v == -1 || x.Func == 1 && v >= 0 && v <= 2
				case x.Op == api.IxCall && name == "Func":
					good = v == x.Func
				}
				if e := ir.Check(with(t, y)); e != okIf(good) {
					t.Errorf("Op %d, %s %d: Check is %d", x.Op, name, v, e)
				}
			}
		}
	}
}

// P8.1: lists of what has none, and operands.
func TestListsAndOperands(t *testing.T) {
	for _, x := range fine() {
		if x.Op != api.IxCall {
			y := x
			y.Args = []api.Opd{num(1)}
			expect(t, "Args", with(t, y), api.ErrArg)
			y = x
			y.Arrays = []int{0}
			expect(t, "Arrays", with(t, y), api.ErrArg)
			y = x
			y.Args, y.Arrays, y.From = []api.Opd{}, []int{}, []int{}
			expect(t, "empty lists", with(t, y), api.OK)
		}
		x.From = []int{0}
		expect(t, "From", with(t, x), api.ErrArg)
	}
	for o, want := range map[api.Opd]bool{
		reg(0): true, reg(2): true, num(0): true, num(math.MinInt64): true, num(math.MaxInt64): true,
		reg(3): false, reg(-2): false, reg(300): false, reg(math.MinInt): false, reg(math.MaxInt): false, {Reg: 0, Imm: 1}: false, {Reg: 2, Imm: -1}: false, {Reg: -2, Imm: 1}: false, {Reg: 3, Imm: 1}: false,
	} {
		for _, x := range []api.Instr{
			{Op: api.IxCopy, To: 0, A: o}, {Op: api.IxBin, Kind: 1, To: 0, A: o, B: num(1)}, {Op: api.IxBin, Kind: 1, To: 0, A: num(1), B: o},
			{Op: api.IxCheck, To: -1, A: o, B: num(1)}, {Op: api.IxCheck, To: -1, A: num(1), B: o}, {Op: api.IxLoad, To: 0, A: o}, {Op: api.IxStore, To: -1, A: o, B: num(1)}, {Op: api.IxStore, To: -1, A: num(1), B: o},
			{Op: api.IxPut, To: -1, A: o}, {Op: api.IxPrint, To: -1, A: o}, {Op: api.IxCall, To: -1, Func: 1, Args: []api.Opd{o, num(1)}}, {Op: api.IxCall, To: -1, Func: 1, Args: []api.Opd{num(1), o}},
		} {
			if e := ir.Check(with(t, x)); e != okIf(want) {
				t.Errorf("Op %d, operand %v: Check is %d", x.Op, o, e)
			}
		}
	}
	for _, o := range []api.Opd{{Imm: 1}, {Reg: 1}, {Reg: -1}} {
		for _, x := range []api.Instr{{Op: api.IxGet, To: 0, A: o}, {Op: api.IxGet, To: 0, B: o}, {Op: api.IxCopy, To: 0, B: o}, {Op: api.IxCall, To: -1, Func: 1, Args: []api.Opd{o, o}, A: o}} {
			expect(t, "an operand that is not used", with(t, x), api.ErrArg)
		}
	}
	none := read(t, "main f; func f params 0 regs 0 { b0: trap; }")
	for _, x := range fine() {
		none.Funcs[0].Blocks[0].Code = []api.Instr{x}
		expect(t, "an instruction where there is nothing", none, api.ErrArg)
	}
}

// phis is a function in whose block 3 there are phis: the blocks 0, 2 and 5 lead to it, the last one twice.
const phis = "main f; func f params 0 regs 2 { b0: branch 1, b3, b1; b1: return; b2: jump b3; b3: r0 = phi b0: 1, b2: 2, b5: r0; r1 = phi b0: r1, b2: 2, b5: -3; r0 = 7; branch r0, b4, b1; b4: jump b5; b5: branch 2, b3, b3; b6: trap; }"

// P8.1: phis.
func TestPhis(t *testing.T) {
	args := func(n int) []api.Opd { return slices.Repeat([]api.Opd{num(7)}, n) }
	for _, c := range []struct {
		what       string
		block, at  int
		to         int
		args, from int
		list       []int
		want       bool
	}{
		{"all", 3, 0, 0, 3, 3, []int{0, 2, 5}, true},
		{"behind another one", 3, 1, 1, 3, 3, []int{0, 2, 5}, true},
		{"behind all", 3, 2, 1, 3, 3, []int{0, 2, 5}, true},
		{"behind another instruction", 3, 3, 1, 3, 3, []int{0, 2, 5}, false},
		{"no place for it", 3, 0, -1, 3, 3, []int{0, 2, 5}, false},
		{"a register that is none", 3, 0, 2, 3, 3, []int{0, 2, 5}, false},
		{"one less", 3, 0, 0, 2, 2, []int{0, 2}, false},
		{"another one less", 3, 0, 0, 2, 2, []int{2, 5}, false},
		{"one more", 3, 0, 0, 4, 4, []int{0, 2, 4, 5}, false},
		{"one twice", 3, 0, 0, 4, 4, []int{0, 2, 5, 5}, false},
		{"another one", 3, 0, 0, 3, 3, []int{0, 2, 4}, false},
		{"not ascending", 3, 0, 0, 3, 3, []int{2, 0, 5}, false},
		{"none", 3, 0, 0, 0, 0, nil, false},
		{"less Args", 3, 0, 0, 2, 3, []int{0, 2, 5}, false},
		{"more Args", 3, 0, 0, 4, 3, []int{0, 2, 5}, false},
		{"no Args", 3, 0, 0, 0, 3, []int{0, 2, 5}, false},
		{"no block", 3, 0, 0, 3, 3, []int{0, 2, 50}, false},
		{"a negative block", 3, 0, 0, 3, 3, []int{-1, 2, 5}, false},
		{"two to one", 1, 0, 0, 2, 2, []int{0, 3}, true},
		{"one", 4, 0, 0, 1, 1, []int{3}, true},
		{"itself", 4, 0, 0, 1, 1, []int{4}, false},
		{"none, where none leads", 2, 0, 0, 0, 0, nil, true},
		{"none, where none leads", 6, 0, 1, 0, 0, []int{}, true},
		{"one where none leads", 6, 0, 1, 1, 1, []int{5}, false},
		{"in the block 0", 0, 0, 0, 0, 0, nil, false},
	} {
		m := read(t, phis)
		b := &m.Funcs[0].Blocks[c.block]
		x := api.Instr{Op: api.IxPhi, To: c.to, Args: args(c.args), From: c.list}
		b.Code = slices.Insert(b.Code, c.at, x)
		expect(t, c.what, m, okIf(c.want))
	}
	for _, set := range []func(x *api.Instr){
		func(x *api.Instr) { x.Kind = 1 }, func(x *api.Instr) { x.A = num(0) }, func(x *api.Instr) { x.B.Reg = 1 }, func(x *api.Instr) { x.A.Imm = 1 }, func(x *api.Instr) { x.Array = 1 }, func(x *api.Instr) { x.Cell = 1 }, func(x *api.Instr) { x.Func = 1 }, func(x *api.Instr) { x.Arrays = []int{0} },
		func(x *api.Instr) { x.Args[2] = reg(2) }, func(x *api.Instr) { x.Args[1] = api.Opd{Reg: 0, Imm: 2} },
	} {
		m := read(t, phis)
		set(&m.Funcs[0].Blocks[3].Code[1])
		expect(t, "a field of a phi", m, api.ErrArg)
	}
}

// P8.1: a phi is never a first block's, even if it is behind others or empty; a block may lead to itself.
func TestPhiBlocks(t *testing.T) {
	read(t, "main f; func f params 0 regs 1 { b0: jump b1; b1: r0 = phi b0: 1, b1: r0; branch r0, b1, b2; b2: return; }")
	for _, s := range []string{
		"main f; func f params 0 regs 1 { b0: r0 = phi; return; }",
		"main f; func f params 0 regs 1 { b0: r0 = 1; r0 = phi; return; }",
		"main f; func f params 0 regs 1 { b0: jump b1; b1: r0 = phi b0: 1; branch r0, b1, b2; b2: return; }",
		"main f; func f params 0 regs 1 { b0: jump b1; b1: r0 = phi; return; }",
		"main f; func f params 0 regs 1 { b0: jump b1; b1: r0 = phi b0: 1; r0 = 2; r0 = phi b0: 1; return; }",
	} {
		refuse(t, s, 0, api.ErrArg)
	}
}
