package flow

import (
	"maps"
	"slices"

	"cupel/api"
)

// blocks is a set of blocks.
type blocks map[int]bool

// dominators says of each block whether it dominates a certain one.
type dominators [api.MaxIBlocks]bool

// shape is what the blocks of a function are to each other.
type shape struct {
	preds, succs [][]int
	order        []int        // those that are reached, in reverse postorder
	doms         []dominators // of each block; one that is not reached has none
}

func shapeOf(f api.IFunc) shape {
	var s shape
	s.preds, s.succs = edges(f)
	s.order = order(s.succs)
	s.doms = allDominators(s.order, s.preds)
	return s
}

func (b blocks) ascending() []int { return slices.Sorted(maps.Keys(b)) }

// targets returns the blocks to which an end leads.
func targets(end api.Term) blocks {
	switch end.Op {
	case api.TmJump:
		return blocks{end.To: true}
	case api.TmBranch:
		return blocks{end.To: true, end.Else: true}
	}
	return nil
}

func edges(f api.IFunc) (preds, succs [][]int) {
	preds, succs = make([][]int, len(f.Blocks)), make([][]int, len(f.Blocks))
	for b, block := range f.Blocks {
		succs[b] = targets(block.End).ascending()
		for _, to := range succs[b] {
			preds[to] = append(preds[to], b)
		}
	}
	return preds, succs
}

// order returns the blocks that are reached, in reverse postorder.
func order(succs [][]int) []int {
	var left []int
	entered := blocks{}
	var enter func(b int)
	enter = func(b int) {
		entered[b] = true
		for _, to := range succs[b] {
			if !entered[to] {
				enter(to)
			}
		}
		left = append(left, b)
	}
	enter(0)
	slices.Reverse(left)
	return left
}

// allDominators begins with all blocks as dominators of all that are reached, and takes away those that are none, until nothing changes.
func allDominators(order []int, preds [][]int) []dominators {
	doms := make([]dominators, len(preds))
	for _, b := range order {
		for _, a := range order {
			doms[b][a] = b != 0 || a == 0
		}
	}
	for again := true; again; {
		again = false
		for _, b := range order[1:] {
			if less := common(doms, preds[b]).with(b); less != doms[b] {
				doms[b], again = less, true
			}
		}
	}
	return doms
}

// common returns what dominates all of these blocks that are reached, at least one of which is.
func common(doms []dominators, of []int) dominators {
	var all dominators
	first := true
	for _, p := range of {
		switch {
		case doms[p] == dominators{}: // not reached
		case first:
			all, first = doms[p], false
		default:
			all = all.both(doms[p])
		}
	}
	return all
}

func (d dominators) both(e dominators) dominators {
	for a := range d {
		d[a] = d[a] && e[a]
	}
	return d
}

func (d dominators) with(b int) dominators {
	d[b] = true
	return d
}

func (s shape) dominates(a, b int) bool { return s.doms[b][a] }

// immediate returns the immediate dominators. Such a one has the dominators of its block but for that block; there is none for the block 0, which leaves -1.
func (s shape) immediate() []int {
	idom := slices.Repeat([]int{-2}, len(s.doms))
	for _, b := range s.order {
		idom[b] = slices.IndexFunc(s.doms, func(d dominators) bool { return d != s.doms[b] && d != dominators{} && d.with(b) == s.doms[b] })
	}
	return idom
}

// frontiers returns the dominance frontiers.
func (s shape) frontiers() [][]int {
	sets := make([]blocks, len(s.doms))
	for _, a := range s.order {
		sets[a] = blocks{}
	}
	for _, p := range s.order {
		for _, b := range s.succs[p] {
			for a, dominates := range s.doms[p] {
				if dominates && (a == b || !s.dominates(a, b)) {
					sets[a][b] = true
				}
			}
		}
	}
	lists := make([][]int, len(sets))
	for a, set := range sets {
		lists[a] = set.ascending()
	}
	return lists
}
