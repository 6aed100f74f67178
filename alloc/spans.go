package alloc

import (
	"math"
	"slices"

	"cupel/api"
)

// spans are those of all registers, as far as they are known; To of one that has none as yet is less than From.
type spans []api.VSpan

func spansOf(f *api.VFunc, faults []int) []api.VSpan {
	all := make(spans, f.Regs)
	for r := range all {
		all[r] = api.VSpan{Reg: r, From: math.MaxInt, To: -1}
	}
	all.addNamed(f)
	if !slices.Contains(faults, api.FtAlloc3) {
		all.addLive(livenessOf(f))
	}
	return slices.DeleteFunc(all, func(s api.VSpan) bool { return s.To < s.From })
}

// add makes the span of a register go over a point.
func (all spans) add(r, point int) {
	if r != none {
		all[r].From, all[r].To = min(all[r].From, point), max(all[r].To, point)
	}
}

// addNamed adds the points at which registers are read and written.
func (all spans) addNamed(f *api.VFunc) {
	p := 0
	for _, list := range f.Blocks {
		for _, x := range list {
			for _, r := range reads(x) {
				all.add(r, 2*p)
			}
			all.add(x.D, 2*p+1)
			p++
		}
	}
}

// addLive adds the points at which registers are live where blocks begin, and where they lead to others. This is enough: at any other point of a block a register is live only if it is so at the beginning, or written before, and if it is so where the block leads to another one, or read after.
func (all spans) addLive(l liveness) {
	first := 0
	for b, list := range l.f.Blocks {
		for i, live := range l.backwards(b) {
			if i > 0 && !leads(list[i]) {
				continue
			}
			for r, is := range live {
				if is {
					all.add(r, 2*(first+i))
				}
			}
		}
		first += len(list)
	}
}
