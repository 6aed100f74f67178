package fold_test

import (
	"testing"

	"cupel/api"
	"cupel/fold"
	"cupel/ir"
)

// P13.2: runs stay the same with each number of applications. (folded looks for static single assignment form.)
func TestRunsStay(t *testing.T) {
	printed, cut := 0, 0
	modules(t, 500, 14, func(m api.Module) {
		_, list := folded(t, m, 0, all())
		for most := range len(list) + 1 {
			made, _ := folded(t, m, 0, api.Limit{Most: most})
			expectRuns(t, m, made)
		}
		b := run(t, m, 700)
		printed += len(b.Out)
		if b.End == api.EnSteps {
			cut++
		}
	})
	if printed < 4000 || cut < 60 || cut > 400 {
		t.Errorf("%d numbers printed, %d runs cut short", printed, cut)
	}
}

// P13.2, P13.3: all functions of a module, one after the other, and again.
func TestAllFunctions(t *testing.T) {
	count := 0
	look := func(m api.Module) {
		start := m
		for k := range m.Funcs {
			made, list := folded(t, m, k, all())
			expectNoMore(t, made, k)
			m = made
			count += len(list)
		}
		expectRuns(t, start, m)
		for k := range m.Funcs {
			expectNoMore(t, m, k)
		}
	}
	modules(t, 600, 60, look)
	generated(t, 200, look)
	if count < 10000 {
		t.Errorf("%d applications", count)
	}
}

// expectNoMore wants Run to leave a module as it is.
func expectNoMore(t *testing.T, m api.Module, k int) {
	t.Helper()
	if made, list := folded(t, m, k, all()); len(list) > 0 || !ir.Same(made, m) {
		t.Fatalf("%s\nRun of %d again: %v\n%s", text(m), k, list, text(made))
	}
}

// P13.3: after some applications a second Run makes all others.
func TestTheRest(t *testing.T) {
	modules(t, 200, 14, func(m api.Module) {
		want, list := folded(t, m, 0, all())
		for most := range len(list) + 1 {
			half, first := folded(t, m, 0, api.Limit{Most: most})
			made, rest := folded(t, half, 0, all())
			if !ir.Same(made, want) || len(first)+len(rest) != len(list) {
				t.Fatalf("%s\nRun with Most %d, and again:\n%s\nwant\n%s", text(m), most, text(made), text(want))
			}
		}
	})
}

// P13.2: with faults, some functions do something else.
func TestFaultsDiffer(t *testing.T) {
	for _, faults := range faultLists()[1:] {
		differ := 0
		modules(t, 1000, 14, func(m api.Module) {
			if made, _, e := fold.Run(m, 0, all(faults...)); e != api.OK || !sameRuns(t, m, made) {
				differ++
			}
		})
		if differ < 5 || differ > 700 {
			t.Errorf("%v: %d modules", faults, differ)
		}
	}
}
