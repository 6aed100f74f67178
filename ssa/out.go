package ssa

import (
	"slices"

	"cupel/api"
	"cupel/parts"
)

// move is a copy that is to be made.
type move struct {
	to int
	of api.Opd
}

// out replaces phis by copies at the ends of the blocks before.
func out(f *api.IFunc, oneByOne bool) {
	for b := range len(f.Blocks) {
		count := parts.Phis(f.Blocks[b])
		if count == 0 {
			continue
		}
		phis := f.Blocks[b].Code[:count]
		for i, p := range phis[0].From {
			var moves []move
			for _, x := range phis {
				moves = append(moves, move{x.To, x.Args[i]})
			}
			if !oneByOne {
				moves = sequence(moves, &f.Regs)
			}
			add(f, edge(f, p, b), moves)
		}
		f.Blocks[b].Code = slices.Delete(f.Blocks[b].Code, 0, count)
	}
}

// edge returns the block at whose end copies are made between two blocks: a new one, if the first one leads to another one, too.
func edge(f *api.IFunc, from, to int) int {
	end := &f.Blocks[from].End
	if len(parts.Targets(*end)) == 1 {
		return from
	}
	next := len(f.Blocks)
	if end.To == to {
		end.To = next
	} else {
		end.Else = next
	}
	f.Blocks = append(f.Blocks, api.Block{End: api.Term{Op: api.TmJump, To: to}})
	return next
}

func add(f *api.IFunc, b int, moves []move) {
	for _, c := range moves {
		f.Blocks[b].Code = append(f.Blocks[b].Code, api.Instr{Op: api.IxCopy, To: c.to, A: c.of})
	}
}

// sequence returns copies that do one after the other what these do all at once. Where they need another register, it gets the number regs, which grows.
func sequence(left []move, regs *int) []move {
	var list []move
	left = slices.DeleteFunc(left, func(c move) bool { return c.of.Reg == c.to })
	for len(left) > 0 {
		read := map[int]bool{}
		for _, c := range left {
			read[c.of.Reg] = true
		}
		c, rest, some := takeFirst(left, func(c move) bool { return !read[c.to] })
		if !some {
			saved := api.Opd{Reg: left[0].to}
			c, rest = move{*regs, saved}, exchanged(left, saved, api.Opd{Reg: *regs})
			*regs++
		}
		list, left = append(list, c), rest
	}
	return list
}

// takeFirst takes the first element out of a list that is such.
func takeFirst[T any](list []T, is func(x T) bool) (first T, rest []T, some bool) {
	for i, x := range list {
		if is(x) {
			return x, slices.Delete(list, i, i+1), true
		}
	}
	return first, list, false
}

// exchanged puts another operand in the place of one.
func exchanged(list []move, old, other api.Opd) []move {
	for i := range list {
		if list[i].of == old {
			list[i].of = other
		}
	}
	return list
}
