package pipeline_test

import (
	"slices"
	"strings"
	"testing"

	"cupel/api"
	"cupel/copies"
	"cupel/dead"
	"cupel/fold"
	"cupel/hoist"
	"cupel/inline"
	"cupel/ir"
	"cupel/parts"
	"cupel/peep"
	"cupel/samples"
	"cupel/ssa"
)

// orders returns the passes of the levels by their names, as the document lists them.
func orders() []string {
	return []string{
		"",
		"Into Fold Dead Out Tidy",
		"Into Fold Copies Peep Fold Copies Dead Out Tidy",
		"Inline Into Fold Copies Peep Hoist Fold Copies Peep Dead Out Tidy",
	}
}

// names returns those of the passes, in the order of their numbers, which begin with 1.
func names() []string {
	return []string{"", "Into", "Out", "Tidy", "Fold", "Copies", "Dead", "Peep", "Hoist", "Inline"}
}

// result is what a pass returns, or, with a list for each instance, Run.
type result struct {
	m     api.Module
	lists [][]api.Applied
	e     api.Errno
}

func resultOf(m api.Module, list []api.Applied, e api.Errno) result {
	return result{m, [][]api.Applied{list}, e}
}

// do makes a pass.
func do(name string, m api.Module, k int, x api.Limit) result {
	switch name {
	case "Into":
		return resultOf(ssa.Into(m, k, x))
	case "Out":
		return resultOf(ssa.Out(m, k, x))
	case "Tidy":
		return resultOf(ssa.Tidy(m, k, x))
	case "Fold":
		return resultOf(fold.Run(m, k, x))
	case "Copies":
		return resultOf(copies.Run(m, k, x))
	case "Dead":
		return resultOf(dead.Run(m, k, x))
	case "Peep":
		return resultOf(peep.Run(m, k, x))
	case "Hoist":
		return resultOf(hoist.Run(m, k, x))
	}
	return resultOf(inline.Run(m, k, x))
}

// modelRun is Run by another account, for arguments that are right: the last instance is asked for what the ones before it have left, and what that returns is closed from its last function on.
func modelRun(m api.Module, level, first int, x api.Limit) result {
	r := result{m: m}
	if first == -1 {
		first = len(strings.Fields(orders()[level])) * len(m.Funcs)
	}
	if first > 0 {
		r = modelInstances(m, level, first, x)
	}
	for k := 0; r.e == api.OK && k < len(m.Funcs); k++ {
		if parts.HasPhi(r.m.Funcs[k]) {
			r.m, _, r.e = ssa.Out(r.m, k, samples.All())
		}
	}
	if r.e != api.OK {
		return result{e: r.e}
	}
	return r
}

func modelInstances(m api.Module, level, first int, x api.Limit) result {
	before := result{m: m}
	if first > 1 {
		before = modelInstances(m, level, first-1, samples.All(x.Faults...))
	}
	if before.e != api.OK {
		return before
	}
	word := strings.Fields(orders()[level])[(first-1)/len(m.Funcs)]
	r := do(word, before.m, (first-1)%len(m.Funcs), x)
	r.lists = append(slices.Clone(before.lists), r.lists...)
	return r
}

func same(a, b result) bool {
	return ir.Same(a.m, b.m) && slices.EqualFunc(a.lists, b.lists, slices.Equal) && a.e == b.e
}

// expectModel wants of Run what the model says, and returns it.
func expectModel(t *testing.T, m api.Module, level, first int, x api.Limit) result {
	t.Helper()
	got, want := ask(m, level, first, x), modelRun(m, level, first, x)
	if !same(got, want) {
		t.Fatalf("%s\nRun at the level %d, %d, %v: error %d, want %d, %v\n%s\nwant %v\n%s", samples.Text(m), level, first, x, got.e, want.e, got.lists, samples.Text(got.m), want.lists, samples.Text(want.m))
	}
	return got
}
