package pipeline_test

import (
	"slices"
	"testing"

	"cupel/api"
	"cupel/pipeline"
	"cupel/samples"
)

// P19.3, P19.5: functions with phis are closed, and others stay as they are, whatever they are; also if no instance is run at all.
func TestClosed(t *testing.T) {
	const ring = "func f params 0 regs 4 { b0: jump b1; b1: r0 = phi b0: 1, b1: r1; r1 = phi b0: 2, b1: r0; r2 = lt r0, r1; print r0; branch r2, b1, b2; b2: return; } "
	const out = "func f params 0 regs 5 { b0: r0 = 1; r1 = 2; jump b1; b1: r2 = lt r0, r1; print r0; branch r2, b3, b2; b2: return; b3: r4 = r0; r0 = r1; r1 = r4; jump b1; } "
	const twice = "func g params 0 regs 2 { b0: r0 = 1; jump b1; b1: r0 = add r0, 1; branch r0, b1, b2; b2: return; b3: print r0; return; } "
	const meet = "func h params 1 regs 2 result { b0: branch r0, b1, b2; b1: jump b2; b2: r1 = phi b0: r0, b1: 3; return r1; } "
	const met = "func h params 1 regs 2 result { b0: branch r0, b1, b3; b1: r1 = 3; jump b2; b2: return r1; b3: r1 = r0; jump b2; } "
	for _, c := range []struct{ what, before, after string }{
		{"one of one", ring, out},
		{"none", twice, twice},
		{"the first one", ring + twice, out + twice},
		{"the last one", twice + ring, twice + out},
		{"two of three", meet + twice + ring, met + twice + out},
		{"in a block that is not reached", "func f params 0 regs 1 { b0: return; b1: r0 = phi; print r0; return; } ", "func f params 0 regs 1 { b0: return; b1: print r0; return; } "},
	} {
		const main = "main m; func m params 0 regs 0 { b0: return; } "
		m, want := samples.Read(t, main+c.before), samples.Text(samples.Read(t, main+c.after))
		for level := range orders() {
			for _, x := range []api.Limit{samples.All(), {}, {Most: 1}, samples.All(allFaults()...), {Faults: []int{api.FtOneByOne}}} {
				if r := run(t, m, level, 0, x); samples.Text(r.m) != want || len(r.lists) > 0 {
					t.Errorf("%s: the level %d, %v: %v\n%s", c.what, level, x, r.lists, samples.Text(r.m))
				}
			}
		}
		if r := run(t, m, 0, -1, samples.All()); samples.Text(r.m) != want || len(r.lists) > 0 {
			t.Errorf("%s: %v\n%s", c.what, r.lists, samples.Text(r.m))
		}
	}
}

// P19.3: closing has no faults, whatever those of the instances are; what an instance of Out makes has them.
func TestClosedWithoutFaults(t *testing.T) {
	w := witnesses()[api.FtOneByOne-1]
	m := samples.Read(t, w.text)
	list, _ := pipeline.Instances(m, w.level)
	out := slices.Index(list, api.Instance{Pass: api.PsOut})
	for first := range len(list) + 1 {
		for _, most := range []int{-1, 0, 1, 2} {
			r := run(t, m, w.level, first, api.Limit{Most: most, Faults: []int{w.fault}})
			if isOut := first > out+1 || first == out+1 && most != 0; kept.IsKept(t, m, r.m) == isOut {
				t.Errorf("the first %d, Most %d: kept: %v\n%s", first, most, !isOut, samples.Text(r.m))
			}
		}
	}
}
