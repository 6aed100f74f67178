package samples

import (
	"slices"

	"cupel/api"
	"cupel/parts"
)

// caller draws functions without phis, each of which calls some of those that were drawn before.
type caller struct {
	*Dice
	m     api.Module
	drawn []int
	names map[int]map[int]bool // by functions: the arrays of the module that it names, or one that it calls
}

// Calls makes a module whose functions have no phis, and read registers also where nothing has been assigned to them. Main, the function 1, calls the function 0, and all of them those with higher indices.
func Calls(seed uint64) api.Module {
	dice := NewDice(seed)
	k := caller{Dice: dice, names: map[int]map[int]bool{}, m: api.Module{
		Cells:  []api.Cell{{Name: "c0", Init: 5}, {Name: "c1", Init: 6}},
		Arrays: []api.GArray{{Name: "x", Len: 2}, {Name: "y", Len: 3, Small: true}},
		Funcs:  make([]api.IFunc, 3+dice.IntN(4)),
		Main:   1,
	}}
	for i := len(k.m.Funcs) - 1; i > k.m.Main; i-- {
		k.draw(i)
	}
	k.draw(0)
	k.draw(k.m.Main)
	return k.m
}

// Callers calls look with the modules of many calls.
func Callers(count int, look func(m api.Module)) {
	for seed := range uint64(count) {
		look(Calls(seed))
	}
}

// draw draws a function.
func (k *caller) draw(i int) {
	f := &k.m.Funcs[i]
	f.Name = []string{"f", "m", "g", "h", "i", "j", "k"}[i]
	if i != k.m.Main {
		f.Params, f.Result = k.IntN(4), k.IntN(3) > 0
	}
	f.Regs = f.Params + 2 + k.IntN(4)
	k.names[i] = map[int]bool{}
	k.arrays(i)
	blocks, code := 4, 6
	if i <= k.m.Main {
		blocks = 8
	}
	if k.IntN(6) == 0 {
		code = 16
	}
	f.Blocks = k.ends(f.Result, 1+k.IntN(blocks))
	for b := range f.Blocks {
		k.code(i, b, 1+k.IntN(code))
	}
	k.drawn = append(k.drawn, i)
}

// arrays draws the arrays of a function.
func (k *caller) arrays(i int) {
	f := &k.m.Funcs[i]
	for n := range k.m.Arrays {
		if k.IntN(2) == 0 {
			f.Arrays = append(f.Arrays, api.Array{Kind: api.AyGlobal, Global: n})
			k.names[i][n] = true
		}
	}
	for kind := api.AyLocal; kind <= api.AyParam && (kind == api.AyLocal || i != k.m.Main); kind++ {
		for range k.IntN(3) {
			f.Arrays = append(f.Arrays, api.Array{Kind: kind, Len: 1 + k.IntN(3), Small: k.IntN(3) == 0})
		}
	}
	for n := range f.Arrays {
		other := k.IntN(n + 1)
		f.Arrays[n], f.Arrays[other] = f.Arrays[other], f.Arrays[n]
	}
}

// code draws the instructions of a block, and the operand of its end.
func (k *caller) code(i, b, count int) {
	f := &k.m.Funcs[i]
	block := &f.Blocks[b]
	for n := range count {
		switch {
		case i == k.m.Main && b == 0 && n == 0:
			block.Code = append(block.Code, k.call(i, 0)...)
		case len(k.drawn) > 0 && k.IntN(4) == 0:
			block.Code = append(block.Code, k.call(i, k.drawn[k.IntN(len(k.drawn))])...)
		default:
			block.Code = append(block.Code, k.instr(f))
			if x := block.Code[len(block.Code)-1]; x.Op == api.IxLoad && k.IntN(3) > 0 {
				block.Code = append(block.Code, printing(x.To))
			}
		}
	}
	end := &block.End
	if b > 0 && b == len(f.Blocks)-1 && end.Op != api.TmTrap && k.IntN(8) > 0 {
		*end = api.Term{Op: api.TmReturn}
	}
	if end.Op == api.TmBranch && k.IntN(3) > 0 || end.Op == api.TmJump && end.To <= b {
		k.turn(f, b)
		return
	}
	for _, o := range parts.EndOperands(end, f.Result) {
		*o = k.operand(f)
	}
}

// turn makes a block lead back, or not so far ahead, until it, and others like it, have ended so and so often.
func (k *caller) turn(f *api.IFunc, b int) {
	block, turns, less := &f.Blocks[b], f.Regs-1, k.register(f)
	near, far := block.End.To, max(block.End.Else, min(b+1, len(f.Blocks)-1))
	block.Code = append(block.Code,
		api.Instr{Op: api.IxBin, Kind: api.IbAdd, To: turns, A: api.Opd{Reg: turns}, B: api.Opd{Reg: -1, Imm: 1}},
		api.Instr{Op: api.IxBin, Kind: api.IbLt, To: less, A: api.Opd{Reg: turns}, B: api.Opd{Reg: -1, Imm: int64(k.IntN(9))}})
	block.End = api.Term{Op: api.TmBranch, A: api.Opd{Reg: less}, To: min(near, far), Else: max(near, far)}
}

// register draws one that is not the last: that one counts how often blocks end.
func (k *caller) register(f *api.IFunc) int { return k.IntN(f.Regs - 1) }

func (k *caller) operand(f *api.IFunc) api.Opd {
	if k.IntN(3) > 0 {
		return api.Opd{Reg: k.register(f)}
	}
	return api.Opd{Reg: -1, Imm: int64(k.IntN(8)) - 2}
}

// instr draws an instruction that is no call.
func (k *caller) instr(f *api.IFunc) api.Instr {
	to := k.register(f)
	list := []api.Instr{
		{Op: api.IxPrint, To: -1},
		{Op: api.IxPrint, To: -1},
		{Op: api.IxCopy, To: to},
		{Op: api.IxGet, To: to, Cell: k.IntN(2)},
		{Op: api.IxPut, To: -1, Cell: k.IntN(2)},
		{Op: api.IxBin, To: to, Kind: api.IbAdd + k.IntN(api.IbLe-api.IbAdd+1)},
		{Op: api.IxBin, To: to, Kind: api.IbAdd + k.IntN(3)},
		{Op: api.IxCheck, To: -1},
	}
	for a := range f.Arrays {
		load, store := api.Instr{Op: api.IxLoad, To: to, Array: a}, api.Instr{Op: api.IxStore, To: -1, Array: a}
		list = append(list, load, load, store, store)
	}
	x := list[k.IntN(len(list))]
	for _, o := range parts.Operands(&x) {
		*o = k.operand(f)
	}
	switch {
	case x.Op == api.IxCheck && k.IntN(16) > 0:
		x.A, x.B = api.Opd{Reg: -1}, api.Opd{Reg: -1, Imm: 1}
	case (x.Kind == api.IbDiv || x.Kind == api.IbRem) && k.IntN(16) > 0:
		x.B = api.Opd{Reg: -1, Imm: 3}
	}
	return x
}

// call draws a call of another function, and mostly one that prints its result, or nothing if an array is missing.
func (k *caller) call(i, other int) []api.Instr {
	f, g := &k.m.Funcs[i], k.m.Funcs[other]
	x := api.Instr{Op: api.IxCall, To: -1, Func: other}
	for range g.Params {
		x.Args = append(x.Args, k.operand(f))
	}
	for _, a := range g.Arrays {
		if a.Kind == api.AyParam {
			n := k.given(f, other, a, x.Arrays)
			if n < 0 {
				return nil
			}
			x.Arrays = append(x.Arrays, n)
		}
	}
	for n := range k.names[other] {
		k.names[i][n] = true
	}
	if !g.Result || k.IntN(4) == 0 {
		return []api.Instr{x}
	}
	x.To = k.register(f)
	return []api.Instr{x, printing(x.To)}
}

func printing(r int) api.Instr { return api.Instr{Op: api.IxPrint, To: -1, A: api.Opd{Reg: r}} }

// given draws an array to be given for a parameter, besides others that are given: one that there is already, or a new one, if there are not too many. It is -1 if there is none.
func (k *caller) given(f *api.IFunc, other int, param api.Array, others []int) int {
	var list []int
	locals := 0
	for n, a := range f.Arrays {
		length, small := a.Len, a.Small
		if a.Kind == api.AyGlobal {
			length, small = k.m.Arrays[a.Global].Len, k.m.Arrays[a.Global].Small
		}
		if a.Kind == api.AyLocal {
			locals++
		}
		if length == param.Len && small == param.Small && !slices.Contains(others, n) && (a.Kind != api.AyGlobal || !k.names[other][a.Global]) {
			list = append(list, n)
		}
	}
	switch {
	case len(list) > 0:
		return list[k.IntN(len(list))]
	case locals == 3:
		return -1
	}
	f.Arrays = append(f.Arrays, api.Array{Kind: api.AyLocal, Len: param.Len, Small: param.Small})
	return len(f.Arrays) - 1
}
