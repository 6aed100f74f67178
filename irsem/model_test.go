package irsem_test

import (
	"maps"
	"slices"

	"cupel/api"
)

// machine runs a module one step after the other. It keeps the calls in a list, and what it knows in maps.
type machine struct {
	m      api.Module
	cells  map[int]int64
	arrays []*memory
	calls  []*activation // that have not ended, the innermost one last
	b      api.Behaviour // End 0: it goes on
	visits []api.Visit
}

// memory is an array, with the elements that are not 0.
type memory struct {
	length, modulus int64 // modulus 0: none
	words           map[int64]int64
}

// activation is a call.
type activation struct {
	index, block int
	next         int // the instruction that is made next, or the end behind them
	to           int // the register of the caller that gets the result
	regs         map[int]int64
	before       map[int]int64 // the registers when the block was entered
	from         int           // the block from which it was entered
	arrays       []*memory
}

// modelRun is what a module does with so many steps, and all blocks that it enters.
func modelRun(m api.Module, steps int) (api.Behaviour, []api.Visit) {
	k := &machine{m: m, cells: map[int]int64{}}
	for i, c := range m.Cells {
		k.cells[i] = c.Init
	}
	for _, a := range m.Arrays {
		k.arrays = append(k.arrays, newMemory(a.Len, a.Small))
	}
	k.call(m.Main, -1, map[int]int64{}, nil)
	for ; k.b.End == 0; steps-- {
		if steps == 0 {
			k.b.End = api.EnSteps
			break
		}
		k.step()
	}
	return k.b, k.visits
}

func newMemory(length int, small bool) *memory {
	a := &memory{length: int64(length), words: map[int64]int64{}}
	if small {
		a.modulus = 256
	}
	return a
}

// least rest is the number from 0 to n - 1 that differs from v by a multiple of n.
func leastRest(v, n int64) int64 {
	v %= n
	if v < 0 {
		return v + n
	}
	return v
}

func (k *machine) call(index, to int, regs map[int]int64, given []*memory) {
	a := &activation{index: index, to: to, regs: regs}
	for _, x := range k.m.Funcs[index].Arrays {
		switch x.Kind {
		case api.AyLocal:
			a.arrays = append(a.arrays, newMemory(x.Len, x.Small))
		case api.AyParam:
			a.arrays = append(a.arrays, given[0])
			given = given[1:]
		case api.AyGlobal:
			a.arrays = append(a.arrays, k.arrays[x.Global])
		}
	}
	k.calls = append(k.calls, a)
	k.enter(a, 0)
}

func (k *machine) enter(a *activation, block int) {
	a.from, a.block, a.next, a.before = a.block, block, 0, maps.Clone(a.regs)
	k.visits = append(k.visits, api.Visit{Func: a.index, Block: block})
}

func (k *machine) step() {
	a := k.calls[len(k.calls)-1]
	block := k.m.Funcs[a.index].Blocks[a.block]
	if a.next == len(block.Code) {
		k.end(a, block.End)
		return
	}
	a.next++
	k.instr(a, block.Code[a.next-1])
}

func value(regs map[int]int64, x api.Opd) int64 {
	if x.Reg == -1 {
		return x.Imm
	}
	return regs[x.Reg]
}

func (k *machine) trap(code int) { k.b.End, k.b.Code = api.EnTrap, code }

func (k *machine) end(a *activation, t api.Term) {
	switch {
	case t.Op == api.TmTrap:
		k.trap(api.TrStated)
	case t.Op == api.TmReturn:
		k.calls = k.calls[:len(k.calls)-1]
		if len(k.calls) == 0 {
			k.b.End = api.EnDone
		} else if a.to >= 0 {
			k.calls[len(k.calls)-1].regs[a.to] = value(a.regs, t.A)
		}
	case t.Op == api.TmBranch && value(a.regs, t.A) == 0:
		k.enter(a, t.Else)
	default:
		k.enter(a, t.To)
	}
}

func (k *machine) instr(a *activation, x api.Instr) {
	v, w := value(a.regs, x.A), value(a.regs, x.B)
	switch x.Op {
	case api.IxCopy:
		a.regs[x.To] = v
	case api.IxBin:
		result, trap := modelBin(x.Kind, v, w)
		if trap {
			k.trap(api.TrDivide)
		}
		a.regs[x.To] = result
	case api.IxCheck:
		if v < 0 || w <= v {
			k.trap(api.TrIndex)
		}
	case api.IxLoad:
		array := a.arrays[x.Array]
		a.regs[x.To] = array.words[leastRest(v, array.length)]
	case api.IxStore:
		array := a.arrays[x.Array]
		if array.modulus > 0 {
			w = leastRest(w, array.modulus)
		}
		array.words[leastRest(v, array.length)] = w
	case api.IxGet:
		a.regs[x.To] = k.cells[x.Cell]
	case api.IxPut:
		k.cells[x.Cell] = v
	case api.IxPrint:
		if len(k.b.Out) == api.MaxOut {
			k.b.End = api.EnSteps
			return
		}
		k.b.Out = append(k.b.Out, v)
	case api.IxPhi:
		a.regs[x.To] = value(a.before, x.Args[slices.Index(x.From, a.from)])
	case api.IxCall:
		regs := map[int]int64{}
		for i, arg := range x.Args {
			regs[i] = value(a.regs, arg)
		}
		var given []*memory
		for _, i := range x.Arrays {
			given = append(given, a.arrays[i])
		}
		k.call(x.Func, x.To, regs, given)
	}
}
