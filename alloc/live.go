package alloc

import (
	"iter"
	"slices"

	"cupel/api"
)

// none stands for a register where there is none.
const none = -1

// liveness knows which registers are live at the beginnings of the blocks of a function.
type liveness struct {
	f     *api.VFunc
	begin [][]bool // by blocks and registers
}

func livenessOf(f *api.VFunc) liveness {
	l := liveness{f, make([][]bool, len(f.Blocks))}
	for b := range l.begin {
		l.begin[b] = make([]bool, f.Regs)
	}
	for again := true; again; {
		again = false
		for b := len(f.Blocks) - 1; b >= 0; b-- {
			if live := l.beginning(b); !slices.Equal(live, l.begin[b]) {
				l.begin[b], again = live, true
			}
		}
	}
	return l
}

// beginning returns the registers that are live at the beginning of a block, as far as those of other blocks are known.
func (l liveness) beginning(b int) []bool {
	var live []bool
	for _, now := range l.backwards(b) {
		live = now
	}
	return live
}

// backwards produces the indices of the instructions of a block, the last one first, each with the registers that are live before it, in a list that changes from one to the next.
func (l liveness) backwards(b int) iter.Seq2[int, []bool] {
	return func(yield func(int, []bool) bool) {
		live := make([]bool, l.f.Regs)
		for i, x := range slices.Backward(l.f.Blocks[b]) {
			l.before(x, live)
			if !yield(i, live) {
				return
			}
		}
	}
}

// before makes of the registers that are live after an instruction, in its block, those that are live before it.
func (l liveness) before(x api.VInstr, live []bool) {
	if leads(x) {
		for r, is := range l.begin[x.Imm] {
			live[r] = live[r] || is
		}
	}
	if x.D != none {
		live[x.D] = false
	}
	for _, r := range reads(x) {
		if r != none {
			live[r] = true
		}
	}
}

// leads reports whether an instruction may lead to another block, which is its Imm.
func leads(x api.VInstr) bool { return x.Op == api.VcJump || x.Op == api.VcZero }

// reads returns the registers that an instruction reads, or none.
func reads(x api.VInstr) [2]int { return [...]int{x.A, x.B} }
