package ssa

import (
	"slices"

	"cupel/api"
	"cupel/flow"
	"cupel/parts"
)

// into brings a function without phis into static single assignment form. Undefined stands for registers that are not defined.
func into(m api.Module, k int, undefined api.Opd) {
	f := &m.Funcs[k]
	parts.Arrange(f, slices.Sorted(slices.Values(entered(*f))))
	g, _ := flow.Make(m, k)
	live, _, _ := flow.Live(m, k)
	phis := meets(definers(*f), f.Regs, g, live)
	ends := rename(f, g, phis, undefined)
	for b, regs := range phis {
		for i, r := range regs {
			x := &f.Blocks[b].Code[i]
			for _, p := range g.Preds[b] {
				x.From = append(x.From, p)
				x.Args = append(x.Args, ends[p][r])
			}
		}
	}
}

// definers returns the blocks that define registers.
func definers(f api.IFunc) map[int][]int {
	lists := map[int][]int{}
	for b, block := range f.Blocks {
		for _, x := range block.Code {
			if x.To >= 0 && !slices.Contains(lists[x.To], b) {
				lists[x.To] = append(lists[x.To], b)
			}
		}
	}
	return lists
}

// meets returns the registers, ascending, for which blocks get phis.
func meets(definers map[int][]int, regs int, g api.Graph, live [][]int) map[int][]int {
	phis := map[int][]int{}
	for r := range regs {
		sources := definers[r]
		for len(sources) > 0 {
			b := sources[0]
			sources = sources[1:]
			for _, to := range g.Front[b] {
				if slices.Contains(live[to], r) && !slices.Contains(phis[to], r) {
					phis[to] = append(phis[to], r)
					sources = append(sources, to)
				}
			}
		}
	}
	return phis
}

// rename gives all registers new numbers, phis being without operands as yet, and returns what stands for the old ones at the ends of the blocks.
func rename(f *api.IFunc, g api.Graph, phis map[int][]int, undefined api.Opd) map[int][]api.Opd {
	below := map[int][]int{}
	for b, a := range g.Idom {
		below[a] = append(below[a], b)
	}
	stands := slices.Repeat([]api.Opd{undefined}, f.Regs)
	for r := range f.Params {
		stands[r] = api.Opd{Reg: r}
	}
	next := f.Params
	ends := map[int][]api.Opd{}
	var enter func(b int, stands []api.Opd)
	enter = func(b int, stands []api.Opd) {
		block := &f.Blocks[b]
		var first []api.Instr
		for _, r := range phis[b] {
			first = append(first, api.Instr{Op: api.IxPhi, To: r})
		}
		block.Code = append(first, block.Code...)
		for i := range block.Code {
			x := &block.Code[i]
			replace(parts.Operands(x), stands)
			if x.To >= 0 {
				stands[x.To] = api.Opd{Reg: next}
				x.To = next
				next++
			}
		}
		replace(parts.EndOperands(&block.End, f.Result), stands)
		ends[b] = stands
		for _, to := range below[b] {
			enter(to, slices.Clone(stands))
		}
	}
	enter(0, stands)
	f.Regs = next
	return ends
}

func replace(operands []*api.Opd, stands []api.Opd) {
	for _, o := range operands {
		if o.Reg >= 0 {
			*o = stands[o.Reg]
		}
	}
}
