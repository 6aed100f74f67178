package passes

import (
	"testing"

	"cupel/api"
	"cupel/ir"
	"cupel/samples"
)

// P13.2, P14.2, P15.2, P16.2, P17.2, P18.2: runs stay the same with each number of applications. (Made looks for what the pass is for.)
func TestRunsStay(t *testing.T) {
	each(t, func(t *testing.T, p subject) {
		printed, cut := 0, 0
		p.FunctionsFor(t, 500, 14, func(m api.Module) {
			_, list := p.Made(t, m, 0, samples.All())
			for most := range len(list) + 1 {
				made, _ := p.Made(t, m, 0, api.Limit{Most: most})
				p.ExpectKept(t, m, made)
			}
			b := samples.Run(t, m, 700)
			printed += len(b.Out)
			if b.End == api.EnSteps {
				cut++
			}
		})
		if printed < 4000 || cut < 60 || cut > 400 {
			t.Errorf("%d numbers printed, %d runs cut short", printed, cut)
		}
	})
}

// P13.2, P13.3, P14.2, P14.3, P15.2, P15.3, P16.2, P16.3, P17.2, P17.3, P18.2, P18.3: all functions of a module, one after the other, and again.
func TestAllFunctions(t *testing.T) {
	each(t, func(t *testing.T, p subject) {
		count := 0
		look := func(m api.Module) {
			start := m
			for k := range m.Funcs {
				made, list := p.Made(t, m, k, samples.All())
				p.expectNoMore(t, made, k)
				m = made
				count += len(list)
			}
			p.ExpectKept(t, start, m)
			for k := range m.Funcs {
				if !p.IsPlain() { // the others, which are called, may have become shorter
					p.expectNoMore(t, m, k)
				}
			}
		}
		p.FunctionsFor(t, 1500, p.blocks(), look)
		p.ProgramsFor(200, look)
		if count < 10000 {
			t.Errorf("%d applications", count)
		}
	})
}

// expectNoMore wants a pass to leave a module as it is.
func (p subject) expectNoMore(t *testing.T, m api.Module, k int) {
	t.Helper()
	if made, list := p.Made(t, m, k, samples.All()); len(list) > 0 || !ir.Same(made, m) {
		t.Fatalf("%s\nRun of %d again: %v\n%s", samples.Text(m), k, list, samples.Text(made))
	}
}

// P13.2, P14.2, P15.2, P16.2, P17.2, P18.2: with each fault, some functions do something else.
func TestFaultsDiffer(t *testing.T) {
	each(t, func(t *testing.T, p subject) {
		for _, fault := range p.Faults {
			differ := 0
			p.FunctionsFor(t, 1500, 14, func(m api.Module) {
				if made, _, e := p.Run(m, 0, samples.All(fault)); e != api.OK || !p.IsKept(t, m, made) {
					differ++
				}
			})
			if differ < 4 || differ > 500 {
				t.Errorf("fault %d: %d modules", fault, differ)
			}
		}
	})
}

// Nothing of the module changes but the code of one function, which has as many registers and arrays, or more where the pass may make them.
func TestOnlyOneFunction(t *testing.T) {
	each(t, func(t *testing.T, p subject) {
		p.Examples(t, func(m api.Module) {
			for k := range m.Funcs {
				if made, _, e := p.Run(m, k, samples.All()); e == api.OK {
					p.expectOnly(t, m, made, k)
				}
			}
		})
	})
}

// expectOnly wants two modules to differ in one function at most.
func (p subject) expectOnly(t *testing.T, m, made api.Module, k int) {
	t.Helper()
	f, before := &made.Funcs[k], m.Funcs[k]
	f.Blocks = before.Blocks
	if p.grows() {
		f.Regs, f.Arrays = min(f.Regs, before.Regs), f.Arrays[:min(len(f.Arrays), len(before.Arrays))]
	}
	if !ir.Same(made, m) {
		t.Fatalf("%s\nRun of %d has changed more", samples.Text(m), k)
	}
}
