package flow

import (
	"cmp"
	"slices"

	"cupel/api"
)

// loops returns the natural loops, in order.
func (s shape) loops() []api.Loop {
	var all []api.Loop
	for _, h := range s.order {
		if latches := s.latches(h); len(latches) > 0 {
			all = append(all, s.loop(h, latches))
		}
	}
	slices.SortFunc(all, func(a, b api.Loop) int {
		return cmp.Or(cmp.Compare(len(b.Blocks), len(a.Blocks)), cmp.Compare(a.Head, b.Head))
	})
	for i := range all {
		all[i].Parent = parent(all, i)
	}
	return all
}

// latches returns the blocks that lead to h and are dominated by it.
func (s shape) latches(h int) []int {
	var list []int
	for _, p := range s.preds[h] {
		if s.dominates(h, p) {
			list = append(list, p)
		}
	}
	return list
}

// loop returns the loop of a head, as yet without its parent.
func (s shape) loop(h int, latches []int) api.Loop {
	inside := s.inside(h, latches)
	exits := blocks{}
	for b := range inside {
		for _, to := range s.succs[b] {
			if !inside[to] {
				exits[to] = true
			}
		}
	}
	return api.Loop{Head: h, Blocks: inside.ascending(), Latches: latches, Exits: exits.ascending()}
}

// inside goes back from the latches up to the head. Blocks that are not reached may lead into a loop, but do not belong to it.
func (s shape) inside(h int, latches []int) blocks {
	set := blocks{h: true}
	var enter func(b int)
	enter = func(b int) {
		if set[b] || !s.dominates(h, b) {
			return
		}
		set[b] = true
		for _, p := range s.preds[b] {
			enter(p)
		}
	}
	for _, l := range latches {
		enter(l)
	}
	return set
}

// parent returns the index of the least loop around one. Loops are apart or in each other, and those with more blocks come first: so it is the last one before it that has its head.
func parent(all []api.Loop, i int) int {
	for p := i - 1; p >= 0; p-- {
		if slices.Contains(all[p].Blocks, all[i].Head) {
			return p
		}
	}
	return -1
}
