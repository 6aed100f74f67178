package choose_test

import (
	"slices"

	"cupel/api"
	"cupel/irsem"
)

// machine runs virtual code one step after the other. It keeps the calls in a list, and what it knows in maps.
type machine struct {
	v     api.VCode
	words map[int64]int64
	calls []*activation // that have not ended, the innermost one last
	b     api.Behaviour // End 0: it goes on
}

// activation is a call.
type activation struct {
	index, block, next int
	regs               map[int]int64
	given, giving      map[int64]int64
	frame              int64 // where its local arrays begin
	result             int64 // of the last call that has returned in it
}

// modelRun is what valid virtual code does with so many steps.
func modelRun(v api.VCode, steps int) api.Behaviour {
	k := &machine{v: v, words: map[int64]int64{}}
	for i, d := range v.Data {
		k.words[int64(i)] = d
	}
	k.call(v.Main, nil, int64(v.Words))
	for ; k.b.End == 0; steps-- {
		if steps == 0 {
			k.b.End = api.EnSteps
			break
		}
		k.step()
	}
	return k.b
}

func (k *machine) call(index int, given map[int64]int64, frame int64) {
	k.calls = append(k.calls, &activation{index: index, regs: map[int]int64{}, given: given, giving: map[int64]int64{}, frame: frame})
}

// length is how many words local arrays have together.
func length(list []int) int64 {
	sum := int64(0)
	for _, n := range list {
		sum += int64(n)
	}
	return sum
}

func (k *machine) trap(code int) { k.b.End, k.b.Code = api.EnTrap, code }

func (k *machine) step() {
	a := k.calls[len(k.calls)-1]
	f := k.v.Funcs[a.index]
	x := f.Blocks[a.block][a.next]
	a.next++
	left, right := a.regs[x.A], a.regs[x.B]
	switch word := byOp[x.Op].Word; word {
	case "load", "store":
		k.access(a, x, left+x.Imm)
	case "check", "checki":
		if word == "checki" {
			right = x.Imm
		}
		if left < 0 || right <= left {
			k.trap(api.TrIndex)
		}
	case "zero", "jump":
		if word == "jump" || left == 0 {
			a.block, a.next = int(x.Imm), 0
		}
	case "print":
		k.print(left)
	case "arg":
		a.giving[x.Imm] = left
	case "call":
		k.call(int(x.Imm), a.giving, a.frame+length(f.Locals))
		a.giving = map[int64]int64{}
	case "return":
		k.leave(x, left)
	case "trap":
		k.trap(api.TrStated)
	default:
		a.regs[x.D] = k.value(a, x)
	}
}

func (k *machine) access(a *activation, x api.VInstr, place int64) {
	switch {
	case place < 0 || place > 19999:
		k.trap(api.TrMemory)
	case x.Op == api.VcLoad:
		a.regs[x.D] = k.words[place]
	default:
		k.words[place] = a.regs[x.B]
	}
}

func (k *machine) print(v int64) {
	if len(k.b.Out) == 2000 {
		k.b.End = api.EnSteps
		return
	}
	k.b.Out = append(k.b.Out, v)
}

func (k *machine) leave(x api.VInstr, v int64) {
	k.calls = slices.Delete(k.calls, len(k.calls)-1, len(k.calls))
	if len(k.calls) == 0 {
		k.b.End = api.EnDone
		return
	}
	caller := k.calls[len(k.calls)-1]
	if caller.result = v; x.A == -1 {
		caller.result = 0
	}
}

// value is what an instruction writes into its register.
func (k *machine) value(a *activation, x api.VInstr) int64 {
	switch byOp[x.Op].Word {
	case "move":
		return a.regs[x.A]
	case "set":
		return x.Imm
	case "local":
		return a.frame + length(k.v.Funcs[a.index].Locals[:x.Imm])
	case "param":
		return a.given[x.Imm]
	case "result":
		return a.result
	}
	kind, b := x.Op-api.VcBin, a.regs[x.B]
	if x.Op > api.VcBinI {
		kind, b = x.Op-api.VcBinI, x.Imm
	}
	v, trap, _ := irsem.Bin(kind, a.regs[x.A], b)
	if trap {
		k.trap(api.TrDivide)
	}
	return v
}
