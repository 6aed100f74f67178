package ssa_test

import (
	"fmt"
	"math/rand/v2"
	"slices"
	"testing"

	"cupel/api"
	"cupel/ir"
	"cupel/irsem"
	"cupel/samples"
	"cupel/ssa"
)

func run(t *testing.T, m api.Module, steps int) api.Behaviour {
	t.Helper()
	b, e := irsem.Run(m, steps)
	if e != api.OK {
		t.Fatalf("%s\nRun: error %d", text(m), e)
	}
	return b
}

// agree reports whether a module does the same as another one, if it has 100 times as many steps and 100 more.
func agree(t *testing.T, m, other api.Module) bool {
	t.Helper()
	for _, steps := range []int{0, 1, 3, 10, 40, 400} {
		a, b := run(t, m, steps), run(t, other, 100*steps+100)
		equal := a.End == b.End && a.Code == b.Code && slices.Equal(a.Out, b.Out)
		if !irsem.Agree(a, b) || a.End != api.EnSteps && !equal {
			return false
		}
	}
	return true
}

// expectAgreement makes a pass and wants its module to do the same; of a function that would be too long it returns the module as it is.
func (p pass) expectAgreement(t *testing.T, m api.Module, k int) api.Module {
	t.Helper()
	if _, _, e := p.run(m, k, all()); e == api.ErrLong {
		return m
	}
	made := p.make(t, m, k, all())
	if !agree(t, m, made) {
		t.Fatalf("%s\n%s of %d does something else:\n%s", text(m), p.name, k, text(made))
	}
	return made
}

// expectForm wants a function to be in static single assignment form, and to have no block that is not reached.
func expectForm(t *testing.T, m api.Module, k int) {
	t.Helper()
	check(t, m, k, api.OK)
	if g := graph(t, m, k); len(g.Order) != len(m.Funcs[k].Blocks) {
		t.Fatalf("%s\n%d: blocks that are not reached", text(m), k)
	}
}

// P12.5, P12.6: all passes, one after the other, on all functions.
func TestPassesAgree(t *testing.T) {
	phis := 0
	look := func(m api.Module) {
		start := m
		for k := range m.Funcs {
			m = into.expectAgreement(t, m, k)
			n, _ := count(m, k, api.MaxRegs)
			phis += n
		}
		for k := range m.Funcs {
			if ssa.Check(m, k) != api.OK {
				return // it was too long
			}
			expectForm(t, m, k)
			m = tidy.expectAgreement(t, m, k)
			expectForm(t, m, k)
		}
		for k := range m.Funcs {
			m = out.expectAgreement(t, m, k)
			if hasPhi(m.Funcs[k]) && ssa.Check(m, k) == api.OK {
				return // it was too long
			}
			m = tidy.expectAgreement(t, m, k)
			m = into.expectAgreement(t, m, k)
		}
		if !agree(t, start, m) {
			t.Fatalf("%s\nbecame\n%s", text(start), text(m))
		}
	}
	modules(t, 250, false, look)
	samples.Lowered(30, look)
	if phis < 1000 {
		t.Errorf("%d phis", phis)
	}
}

// P12.5, P12.6: Out of functions with rings, and with registers that are needed after a loop, and then all others.
func TestOutAgrees(t *testing.T) {
	rings := 0
	inForm(t, 500, func(m api.Module) {
		start := m
		for k, f := range m.Funcs {
			made := out.expectAgreement(t, m, k)
			if ir.Same(made, m) && hasPhi(f) {
				continue // it was too long
			}
			if hasPhi(made.Funcs[k]) {
				t.Fatalf("%s\nOut of %d has a phi:\n%s", text(m), k, text(made))
			}
			_, saved := count(made, k, f.Regs)
			rings += saved
			m = into.expectAgreement(t, tidy.expectAgreement(t, made, k), k)
		}
		if !agree(t, start, m) {
			t.Fatalf("%s\nbecame\n%s", text(start), text(m))
		}
	})
	if rings < 300 {
		t.Errorf("%d registers saved", rings)
	}
}

// P12.5, P12.6: Tidy of all functions, and again; it keeps static single assignment form.
func TestTidyTwice(t *testing.T) {
	forms := 0
	look := func(m api.Module) {
		for k := range m.Funcs {
			isForm := ssa.Check(m, k)
			made := tidy.expectAgreement(t, m, k)
			if again := tidy.make(t, made, k, all()); !ir.Same(again, made) {
				t.Fatalf("%s\nTidy of %d again:\n%s", text(made), k, text(again))
			}
			if isForm == api.OK {
				forms++
				expectForm(t, made, k)
			}
			m = made
		}
	}
	modules(t, 300, true, look)
	inForm(t, 300, look)
	if forms < 800 {
		t.Errorf("%d functions in static single assignment form", forms)
	}
}

// P12.5: with the fault, some modules do something else.
func TestUndefinedDiffers(t *testing.T) {
	differ := 0
	modules(t, 200, false, func(m api.Module) {
		for k := range m.Funcs {
			if made, list, e := ssa.Into(m, k, all(api.FtUndefined)); e == api.OK && len(list) == 1 && !agree(t, m, made) {
				differ++
			}
		}
	})
	if differ < 100 {
		t.Errorf("%d modules", differ)
	}
}

// drawArgs draws what so many phis of looped have, and what their registers are then if each register n was 100 + n.
func drawArgs(dice *rand.Rand, count int) (args []string, want []int64) {
	for range count {
		if r := dice.IntN(count + 2); r <= count {
			args = append(args, fmt.Sprint("r", r))
			want = append(want, int64(100+r))
		} else {
			args = append(args, "7")
			want = append(want, 7)
		}
	}
	return args, want
}

// leftBehind returns what copies leave in the registers from 1 on, if each register n was 100 + n.
func leftBehind(copies []api.Instr, count int) []int64 {
	regs := map[int]int64{}
	for r := range count + 1 {
		regs[r] = int64(100 + r)
	}
	for _, x := range copies {
		v := x.A.Imm
		if x.A.Reg >= 0 {
			v = regs[x.A.Reg]
		}
		regs[x.To] = v
	}
	var list []int64
	for r := range count {
		list = append(list, regs[r+1])
	}
	return list
}

// P12.3, P12.5: the copies of an edge leave behind what the phis would, whatever the registers were; one by one they do not.
func TestCopiesLeaveTheSame(t *testing.T) {
	dice, differ := random(22), 0
	for range 3000 {
		count := 1 + dice.IntN(7)
		args, want := drawArgs(dice, count)
		m := of(t, fmt.Sprintf("params 1 regs %d", count+1), looped(args...))
		copies := out.make(t, m, 0, all()).Funcs[0].Blocks[2].Code[1:]
		if got := leftBehind(copies, count); !slices.Equal(got, want) {
			t.Fatalf("%v: %v, want %v after %v", args, got, want, copies)
		}
		copies = out.make(t, m, 0, all(api.FtOneByOne)).Funcs[0].Blocks[2].Code[1:]
		if !slices.Equal(leftBehind(copies, count), want) {
			differ++
		}
	}
	if differ < 1000 {
		t.Errorf("%d differ", differ)
	}
}
