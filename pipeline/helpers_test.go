package pipeline_test

import (
	"testing"

	"cupel/api"
	"cupel/ir"
	"cupel/pipeline"
	"cupel/samples"
)

// enough says how many steps P19.4 speaks of.
func enough(before int) int { return 200*before + 1000 }

// kept is asked whether runs stay the same.
var kept = samples.Pass{Steps: enough}

// ask returns what Run does.
func ask(m api.Module, level, first int, x api.Limit) result {
	made, lists, e := pipeline.Run(m, level, first, x)
	return result{made, lists, e}
}

// last returns how many applications the last instance has made.
func (r result) last() int {
	if n := len(r.lists); n > 0 {
		return len(r.lists[n-1])
	}
	return 0
}

// run returns what Run makes of a module.
func run(t *testing.T, m api.Module, level, first int, x api.Limit) result {
	t.Helper()
	r := ask(m, level, first, x)
	if r.e != api.OK {
		t.Fatalf("%s\nRun at the level %d, %d, %v: error %d", samples.Text(m), level, first, x, r.e)
	}
	return r
}

// instances returns how many a level has.
func instances(t *testing.T, m api.Module, level int) int {
	t.Helper()
	list, e := pipeline.Instances(m, level)
	if e != api.OK {
		t.Fatalf("%s\nInstances of the level %d: error %d", samples.Text(m), level, e)
	}
	return len(list)
}

// expectError wants an error of Run, and nothing besides.
func expectError(t *testing.T, m api.Module, level, first int, x api.Limit, want api.Errno) {
	t.Helper()
	if r := ask(m, level, first, x); r.e != want || len(r.lists) > 0 || !ir.Same(r.m, api.Module{}) {
		t.Errorf("%.2000s\nRun at the level %d, %d, %v: error %d, want %d, %d lists", samples.Text(m), level, first, x, r.e, want, len(r.lists))
	}
}

// expectOneError wants an error of One, and nothing besides.
func expectOneError(t *testing.T, m api.Module, i api.Instance, x api.Limit, want api.Errno) {
	t.Helper()
	if made, list, e := pipeline.One(m, i, x); e != want || len(list) > 0 || !ir.Same(made, api.Module{}) {
		t.Errorf("%.2000s\nOne of %v, %v: error %d, want %d, list %v", samples.Text(m), i, x, e, want, list)
	}
}

// wrongLimits are not right.
func wrongLimits() []api.Limit {
	return []api.Limit{{Most: -2}, {Most: -1, Faults: []int{0}}, {Most: -1, Faults: []int{25}}, {Faults: []int{1, 1}}, {Most: 5, Faults: []int{3, 2}}}
}

// wrongModules are not valid, with their errors.
func wrongModules(t *testing.T) map[api.Errno]api.Module {
	t.Helper()
	long, down := samples.Read(t, two), samples.Read(t, two)
	long.Funcs[1].Regs = 301
	down.Funcs[1].Blocks[0].End.To = 9
	return map[api.Errno]api.Module{api.ErrLong: long, api.ErrArg: down}
}

// two is a module of two functions.
const two = "main f; func f params 0 regs 2 { b0: r0 = call g(3); r1 = add r0, 1; print r1; return; } func g params 1 regs 2 result { b0: r1 = mul r0, r0; jump b1; b1: return r1; }"
