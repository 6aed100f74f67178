package passes

import (
	"math"
	"slices"
	"testing"

	"cupel/api"
	"cupel/ir"
	"cupel/parts"
	"cupel/samples"
)

func wrongLimits() []api.Limit {
	list := []api.Limit{{Most: -2}, {Most: math.MinInt}, {Most: -2, Faults: []int{1}}}
	for _, faults := range [][]int{{0}, {-1}, {25}, {math.MinInt}, {math.MaxInt}, {1, 1}, {2, 1}, {0, 1}, {1, 2, 25}, {3, 4, 4}, {4, 3}, {24, 24}, make([]int, 30)} {
		list = append(list, api.Limit{Most: -1, Faults: faults}, api.Limit{Faults: faults})
	}
	return list
}

// P13.1, P14.1, P15.1, P16.1, P17.1, P18.1: limits that are not right.
func TestWrongLimits(t *testing.T) {
	each(t, func(t *testing.T, p subject) {
		m := samples.Read(t, p.Many())
		for k := -1; k <= len(m.Funcs); k++ {
			for _, x := range wrongLimits() {
				p.ExpectError(t, m, k, x, api.ErrArg)
			}
		}
	})
}

// P13.1, P14.1, P15.1, P16.1, P17.1, P18.1: limits that are right: faults of other layers do not matter, and the first applications are made.
func TestLimits(t *testing.T) {
	each(t, func(t *testing.T, p subject) {
		m := samples.Read(t, p.Many())
		var faults, own []int
		for fault := range api.MaxFaults + 1 {
			if slices.Contains(p.Faults, fault) {
				own = append(own, fault)
			}
			if fault > 0 {
				faults = append(faults, fault)
			}
			for k := 1; k < len(m.Funcs); k++ {
				all, made := p.Made(t, m, k, samples.All(own...))
				for _, most := range []int{-1, 0, 1, 2, 3, math.MaxInt} {
					got, list := p.Made(t, m, k, api.Limit{Most: most, Faults: faults})
					count := len(made)
					if most >= 0 {
						count = min(most, count)
					}
					if !slices.Equal(list, made[:count]) || count == len(made) && !ir.Same(got, all) || most == 0 && !ir.Same(got, m) {
						t.Errorf("%d, Most %d, faults %v: %v\n%s", k, most, faults, list, samples.Text(got))
					}
				}
			}
		}
	})
}

// P13.1, P14.1, P15.1, P16.1, P17.1, P18.1: the error of ir.Check comes first, then that of the arguments, then that of the form, whatever Most is.
func TestOrderOfErrors(t *testing.T) {
	wrong := []struct {
		change func(m *api.Module)
		want   api.Errno
	}{
		{func(m *api.Module) { m.Main = 9 }, api.ErrArg},
		{func(m *api.Module) { m.Funcs = nil }, api.ErrArg},
		{func(m *api.Module) { m.Funcs[3].Regs = 301 }, api.ErrLong},
		{func(m *api.Module) { m.Funcs[1].Name = "m" }, api.ErrArg},
		{func(m *api.Module) { m.Funcs[2].Blocks[1].End.To = 0 }, api.ErrArg},
		{func(m *api.Module) { phiOf(m).From[0] = 3 }, api.ErrArg},
		{func(m *api.Module) { m.Cells = make([]api.Cell, 41) }, api.ErrLong},
	}
	each(t, func(t *testing.T, p subject) {
		both := append(p.Limits(), wrongLimits()...)
		for _, c := range wrong {
			m := samples.Read(t, p.Many())
			c.change(&m)
			for k := -1; k <= len(m.Funcs); k++ {
				for _, x := range both {
					p.ExpectError(t, m, k, x, c.want)
				}
			}
		}
		m := samples.Read(t, p.Many())
		for _, x := range both {
			for _, k := range []int{-1, len(m.Funcs), math.MinInt, math.MaxInt} {
				p.ExpectError(t, m, k, x, api.ErrArg)
			}
		}
		for _, x := range p.Limits() {
			p.ExpectError(t, m, 0, x, api.ErrDown)
		}
		p.ExpectError(t, api.Module{}, 0, samples.All(), api.ErrArg)
	})
}

// phiOf returns the first phi of a module.
func phiOf(m *api.Module) *api.Instr {
	for _, f := range m.Funcs {
		for _, block := range f.Blocks {
			if parts.Phis(block) > 0 {
				return &block.Code[0]
			}
		}
	}
	return nil
}

// forms returns functions that a pass is not for, and others that it is for.
func (p subject) forms() (wrong, right []string) {
	wrong = []string{
		"b0: r1 = 1; r1 = 1; return;",
		"b0: r0 = 1; return;",
		"b0: print r1; r1 = 2; return;",
		"b0: branch r0, b1, b2; b1: r1 = 1; jump b2; b2: print r1; return;",
		"b0: jump b1; b1: r1 = phi b0: r1; return;",
		"b0: return; b1: r1 = 1; r1 = 2; return;",
	}
	right = []string{"b0: return; b1: print r1; return;", "b0: jump b1; b1: r1 = phi b0: 3, b2: r1; return; b2: jump b1;"}
	if p.IsPlain() {
		right = append(wrong[:4:4], wrong[5], right[0])
		wrong = []string{wrong[4], "b0: jump b1; b1: r1 = phi b0: 3; return;", "b0: return; b1: r1 = phi ; return;", "b0: r1 = 1; jump b1; b1: r1 = phi b0: r1, b2: r1; print r1; return; b2: jump b1;"}
	}
	return wrong, right
}

// P13.1, P14.1, P15.1, P16.1, P17.1, P18.1: functions that are not in static single assignment form, or that have phis.
func TestForm(t *testing.T) {
	each(t, func(t *testing.T, p subject) {
		wrong, right := p.forms()
		for _, body := range wrong {
			for _, x := range p.Limits() {
				p.ExpectError(t, samples.Of(t, "1 regs 2", body), 0, x, api.ErrDown)
			}
		}
		for _, body := range right {
			p.Made(t, samples.Of(t, "1 regs 2", body), 0, samples.All())
		}
	})
}
