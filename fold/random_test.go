package fold_test

import (
	"slices"
	"testing"

	"cupel/api"
	"cupel/ir"
)

// expectModel wants of a function what the model says, for a limit, and returns it.
func expectModel(t *testing.T, m api.Module, k int, x api.Limit) (api.Module, []api.Applied) {
	t.Helper()
	got, list := folded(t, m, k, x)
	want, wantList := modelRun(m, k, x)
	if !ir.Same(got, want) || !slices.Equal(list, wantList) {
		t.Fatalf("%s\nRun of %d, %v: is\n%s\n%v\nwant\n%s\n%v", text(m), k, x, text(got), list, text(want), wantList)
	}
	return got, list
}

// faultLists are those of the faults of this layer.
func faultLists() [][]int {
	return [][]int{nil, {api.FtEqualLess}, {api.FtFirstOnly}, {api.FtEqualLess, api.FtFirstOnly}}
}

// P13.1: functions of all kinds, with all numbers of applications.
func TestMade(t *testing.T) {
	rules, faulty := map[int]int{}, map[int]int{}
	modules(t, 1200, 14, func(m api.Module) {
		plain, _ := expectModel(t, m, 0, all())
		for i, faults := range faultLists() {
			made, list := expectModel(t, m, 0, all(faults...))
			for _, a := range list {
				rules[a.Rule]++
			}
			for most := range len(list) + 2 {
				expectModel(t, m, 0, api.Limit{Most: most, Faults: faults})
			}
			if !ir.Same(made, plain) {
				faulty[i]++
			}
		}
	})
	if rules[1] < 15000 || rules[2] < 4000 || faulty[0] > 0 || faulty[1] < 30 || faulty[2] < 250 || faulty[3] < 250 {
		t.Errorf("applications by rules: %v, functions that faults change: %v", rules, faulty)
	}
}

// P13.1: functions of up to 60 blocks.
func TestMadeLong(t *testing.T) {
	modules(t, 300, 60, func(m api.Module) {
		for _, faults := range faultLists() {
			expectModel(t, m, 0, all(faults...))
		}
	})
}

// P13.1: the functions of programs.
func TestGenerated(t *testing.T) {
	count := 0
	generated(t, 100, func(m api.Module) {
		for k := range m.Funcs {
			for _, faults := range faultLists() {
				_, list := expectModel(t, m, k, all(faults...))
				count += len(list)
			}
		}
	})
	if count < 8000 {
		t.Errorf("%d applications", count)
	}
}
