package flow_test

import (
	"slices"
	"testing"

	"cupel/api"
	"cupel/ir"
	"cupel/irsem"
)

// graphs calls look with each function of many modules, and with many graphs.
func graphs(t *testing.T, look func(m api.Module, k int)) {
	t.Helper()
	modules(t, 150, func(m api.Module) {
		for k := range m.Funcs {
			look(m, k)
		}
	})
	dice := random(3)
	for range 300 {
		look(renumbered(dice, randomGraph(dice, 2+dice.IntN(20))), 0)
	}
}

// P11.5: a block dominates another one exactly if it is on the path of immediate dominators from that one.
func TestPathOfDominators(t *testing.T) {
	graphs(t, func(m api.Module, k int) {
		idom := graph(t, m, k).Idom
		for b := range idom {
			path := []int{}
			for a := b; a >= 0 && idom[a] != -2; a = idom[a] {
				path = append(path, a)
			}
			for a := range idom {
				if is := dominates(t, m, k, a, b); is != slices.Contains(path, a) {
					t.Fatalf("%s\n%d: Dominates(%d, %d) = %v, but the path is %v", text(m), k, a, b, is, path)
				}
			}
		}
	})
}

// P11.5: two loops are apart, or one contains all blocks of the other; then it is before that.
func TestLoopsApart(t *testing.T) {
	counted := 0
	graphs(t, func(m api.Module, k int) {
		list := loops(t, m, k)
		for i, l := range list {
			for _, around := range list[:i] {
				has := func(b int) bool { return slices.Contains(around.Blocks, b) }
				shared := slices.ContainsFunc(l.Blocks, has)
				if shared {
					counted++
				}
				if shared != has(l.Head) || shared && len(choose(len(l.Blocks), func(j int) bool { return has(l.Blocks[j]) })) < len(l.Blocks) {
					t.Fatalf("%s\n%d: loops %q", text(m), k, showLoops(list))
				}
			}
		}
	})
	if counted < 100 {
		t.Errorf("%d loops in another one", counted)
	}
}

// set is a copy of a module in which a register of a function is set to a number before the instruction i of a block.
func set(m api.Module, k, b, i, register int, v int64) api.Module {
	x := api.Instr{Op: api.IxCopy, To: register, A: api.Opd{Reg: -1, Imm: v}}
	m.Funcs = slices.Clone(m.Funcs)
	f := &m.Funcs[k]
	f.Blocks = slices.Clone(f.Blocks)
	f.Blocks[b].Code = slices.Insert(slices.Clone(f.Blocks[b].Code), i, x)
	return m
}

// agrees reports whether modules do the same.
func agrees(t *testing.T, m, n api.Module) bool {
	t.Helper()
	a, e := irsem.Run(m, 300)
	b, f := irsem.Run(n, 300)
	if e != api.OK || f != api.OK {
		t.Fatalf("%s\n%s\nerrors %d, %d", text(m), text(n), e, f)
	}
	return irsem.Agree(a, b)
}

// P11.6: a register that is live at the beginning of the block 0, and is no parameter, is 0 then; the value of one that is not live does not matter.
func TestLiveAtFirst(t *testing.T) {
	zeros, matter := 0, 0
	modules(t, 400, func(m api.Module) {
		for k, f := range m.Funcs {
			in, _ := live(t, m, k)
			for r := range f.Regs {
				isLive := slices.Contains(in[0], r)
				other := set(m, k, 0, 0, r, 77)
				switch {
				case isLive && r >= f.Params:
					zeros++
					if !agrees(t, m, set(m, k, 0, 0, r, 0)) {
						t.Fatalf("%s\n%d: %d is not 0", text(m), k, r)
					}
					if !agrees(t, m, other) {
						matter++
					}
				case !isLive && !agrees(t, m, other):
					t.Fatalf("%s\n%d: %d is not live, but matters", text(m), k, r)
				}
			}
		}
	})
	if zeros < 1000 || matter < 300 {
		t.Errorf("%d registers are 0, %d of them matter", zeros, matter)
	}
}

// P11.4: the value of a register that is not live does not matter, at the beginning of a block, behind its phis, and at its end.
func TestNotLive(t *testing.T) {
	begins, ends := 0, 0
	modules(t, 300, func(m api.Module) {
		for k, f := range m.Funcs {
			in, out := live(t, m, k)
			for b, block := range f.Blocks {
				phis := phisOf(block)
				for r := range f.Regs {
					byPhi := slices.ContainsFunc(phis, func(x api.Instr) bool { return x.To == r })
					if !byPhi && !slices.Contains(in[b], r) {
						begins++
						expectNoMatter(t, m, k, b, len(phis), r)
					}
					asks := block.End.A == api.Opd{Reg: r}
					if !asks && !slices.Contains(out[b], r) {
						ends++
						expectNoMatter(t, m, k, b, len(block.Code), r)
					}
				}
			}
		}
	})
	if begins < 6000 || ends < 6000 {
		t.Errorf("%d at beginnings, %d at ends", begins, ends)
	}
}

func expectNoMatter(t *testing.T, m api.Module, k, b, i, r int) {
	t.Helper()
	other := set(m, k, b, i, r, 77)
	if e := ir.Check(other); e != api.OK || !agrees(t, m, other) {
		t.Fatalf("%s\n%d: %d is not live before the instruction %d of the block %d, but matters (%d)", text(m), k, r, i, b, e)
	}
}
