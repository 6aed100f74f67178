package irsem_test

import (
	"slices"
	"testing"

	"cupel/api"
	"cupel/irsem"
)

// modules calls look with many modules.
func modules(t *testing.T, count int, look func(m api.Module)) {
	t.Helper()
	for seed := range uint64(count) {
		look(read(t, makeModule(seed)))
	}
}

// P10.2, P10.3: what many modules do, with various steps, and which blocks they enter, is what the model says.
func TestModel(t *testing.T) {
	dice := random(2)
	seen := map[string]int{}
	modules(t, 4000, func(m api.Module) {
		for _, steps := range []int{dice.IntN(20), dice.IntN(300), 1000} {
			want, entered := modelRun(m, steps)
			if b := run(t, m, steps); !equal(b, want) {
				t.Fatalf("%s\ndoes %s with %d steps, want %s", text(m), show(b), steps, show(want))
			}
			for _, most := range []int{dice.IntN(10), 2000} {
				first := entered[:min(most, len(entered))]
				if list := trace(t, m, steps, most); !slices.Equal(list, first) {
					t.Fatalf("%s\nenters %s with %d steps, want %s", text(m), visits(list), steps, visits(first))
				}
			}
			seen[show(api.Behaviour{End: want.End, Code: want.Code})]++
			seen["calls"] += min(1, countCalls(entered))
			seen["prints"] += min(1, len(want.Out))
			seen["goes on"] += min(1, len(want.Out)/20)
		}
	})
	for _, what := range []string{"[] done", "[] cut", "[] trap 1", "[] trap 2", "[] trap 3", "calls", "prints", "goes on"} {
		if seen[what] < 100 {
			t.Errorf("%s: %d times", what, seen[what])
		}
	}
}

// countCalls counts the entries of functions.
func countCalls(list []api.Visit) int {
	count := -1
	for _, v := range list {
		if v.Block == 0 {
			count++
		}
	}
	return count
}

// P10.5: with more steps a run goes on in the same way, and does not change any more when it has ended.
func TestMoreSteps(t *testing.T) {
	ended := 0
	modules(t, 150, func(m api.Module) {
		var before api.Behaviour
		var list []api.Visit
		for steps := range 150 {
			b, entered := run(t, m, steps), trace(t, m, steps, 2000)
			if steps > 0 {
				goesOn(t, m, before, b)
			}
			if len(entered) < len(list) || !slices.Equal(entered[:len(list)], list) {
				t.Fatalf("%s\nenters %s, then %s", text(m), visits(list), visits(entered))
			}
			before, list = b, entered
		}
		for _, steps := range []int{1000, 30_000} {
			b := run(t, m, steps)
			goesOn(t, m, before, b)
			before = b
		}
		if before.End != api.EnSteps {
			ended++
		}
	})
	if ended < 50 || ended > 140 {
		t.Errorf("%d modules end", ended)
	}
}

// goesOn looks whether b is what a run that does a may do with more steps.
func goesOn(t *testing.T, m api.Module, a, b api.Behaviour) {
	t.Helper()
	if !irsem.Agree(a, b) || len(b.Out) < len(a.Out) || a.End != api.EnSteps && !equal(a, b) {
		t.Fatalf("%s\ndoes %s, with more steps %s", text(m), show(a), show(b))
	}
}
