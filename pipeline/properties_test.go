package pipeline_test

import (
	"math"
	"testing"

	"cupel/api"
	"cupel/ir"
	"cupel/parts"
	"cupel/samples"
)

// expectNoPhi wants no function of a module to have a phi.
func expectNoPhi(t *testing.T, m api.Module) {
	t.Helper()
	for k, f := range m.Funcs {
		if parts.HasPhi(f) {
			t.Fatalf("%d has a phi: %s", k, samples.Text(m))
		}
	}
}

// P19.4, P19.5: each level, each number of first instances, and each limit of the last one.
func TestEachLimit(t *testing.T) {
	texts := []string{two}
	for _, w := range witnesses() {
		texts = append(texts, w.text)
	}
	for seed := range uint64(6) {
		texts = append(texts, samples.Text(samples.Calls(seed)))
	}
	runs := 0
	for _, text := range texts {
		m := samples.Read(t, text)
		for level := range orders() {
			for first := range instances(t, m, level) + 1 {
				all := ask(m, level, first, samples.All())
				if all.e == api.ErrLong {
					break // calls have become too much to go on
				}
				for most := range all.last() + 1 {
					r := run(t, m, level, first, api.Limit{Most: most})
					kept.ExpectKept(t, m, r.m)
					expectNoPhi(t, r.m)
					runs++
				}
			}
		}
	}
	if runs < 2000 {
		t.Errorf("%d runs", runs)
	}
}

// expectAllKept wants runs of modules to stay the same, for each level and various instances and limits.
func expectAllKept(t *testing.T, seed uint64, each func(look func(m api.Module))) {
	t.Helper()
	dice := samples.NewDice(seed)
	runs := 0
	each(func(m api.Module) {
		for level := range orders() {
			for _, first := range firsts(dice, instances(t, m, level)) {
				r := ask(m, level, first, api.Limit{Most: dice.IntN(8) - 1})
				if r.e == api.ErrLong {
					continue
				}
				if runs++; r.e != api.OK {
					t.Fatalf("%s\nRun at the level %d, %d: error %d", samples.Text(m), level, first, r.e)
				}
				kept.ExpectKept(t, m, r.m)
				expectNoPhi(t, r.m)
			}
		}
	})
	if runs < 2000 {
		t.Errorf("%d runs", runs)
	}
}

// P19.4, P19.5: functions that call each other.
func TestCallersKept(t *testing.T) {
	t.Parallel()
	expectAllKept(t, 5, func(look func(m api.Module)) { samples.Callers(80, look) })
}

// P19.4, P19.5: generated programs.
func TestProgramsKept(t *testing.T) {
	t.Parallel()
	expectAllKept(t, 6, func(look func(m api.Module)) { samples.Lowered(90, look) })
}

// P19.4, P19.5: closing functions with phis.
func TestClosedKept(t *testing.T) {
	t.Parallel()
	closed := 0
	mixed(t, 400, func(m api.Module) {
		if r := ask(m, 0, 0, samples.All()); r.e == api.OK {
			kept.ExpectKept(t, m, r.m)
			expectNoPhi(t, r.m)
			closed++
		}
	})
	if closed < 500 {
		t.Errorf("%d modules", closed)
	}
}

// P19.5: without instances nothing changes, if there was no phi.
func TestNothing(t *testing.T) {
	look := func(m api.Module) {
		for level := range orders() {
			for _, x := range []api.Limit{samples.All(), {}, {Most: 3, Faults: allFaults()}} {
				if r := run(t, m, level, 0, x); len(r.lists) > 0 || !ir.Same(r.m, m) {
					t.Fatalf("%s\nthe level %d, %v: %v\n%s", samples.Text(m), level, x, r.lists, samples.Text(r.m))
				}
			}
		}
		if r := run(t, m, 0, -1, samples.All()); len(r.lists) > 0 || !ir.Same(r.m, m) {
			t.Fatalf("%s\n%v\n%s", samples.Text(m), r.lists, samples.Text(r.m))
		}
	}
	samples.Callers(60, look)
	samples.Lowered(60, look)
}

// P19.5: a limit that the last instance does not reach changes nothing.
func TestLimitNotReached(t *testing.T) {
	t.Parallel()
	dice := samples.NewDice(8)
	look := func(m api.Module) {
		for level := range orders() {
			for _, first := range firsts(dice, instances(t, m, level)) {
				all := ask(m, level, first, samples.All())
				count := all.last()
				for _, most := range []int{count, count + 1, math.MaxInt} {
					if all.e == api.OK && !same(ask(m, level, first, api.Limit{Most: most}), all) {
						t.Fatalf("%s\nthe level %d, the first %d, Most %d: not all %d", samples.Text(m), level, first, most, count)
					}
				}
			}
		}
	}
	samples.Callers(15, look)
	samples.Lowered(15, look)
}
