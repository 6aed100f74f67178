package hoist_test

import (
	"testing"

	"cupel/api"
	"cupel/samples"
)

// P17.1: functions of all kinds, with all numbers of applications.
func TestMade(t *testing.T) {
	pass.ExpectModelOf(t, 800, 14).ExpectEnough(t, 2, 1500, 40)
}

// P17.1, P17.3: functions of up to 60 blocks, some of which would get more; nothing is left by the model.
func TestMadeLong(t *testing.T) {
	long := 0
	samples.Functions(t, 200, api.MaxIBlocks, func(m api.Module) {
		for _, faults := range pass.FaultLists() {
			made, list := pass.ExpectModel(t, m, 0, samples.All(faults...))
			if len(made.Funcs) == 0 {
				long++
				continue
			}
			if _, rest, e := modelRun(made, 0, samples.All(faults...)); len(rest) > 0 || e != api.OK {
				t.Fatalf("%s\nRun with the faults %v, which makes %v, leaves %v", samples.Text(m), faults, list, rest)
			}
		}
	})
	if long < 10 || long > 100 {
		t.Errorf("%d functions would get too many blocks", long)
	}
}

// P17.1: the functions of programs.
func TestPrograms(t *testing.T) {
	if count := pass.ExpectModelOfPrograms(t, 100); count < 2000 {
		t.Errorf("%d applications", count)
	}
}

// P17.2: 100 times as many steps, and 100 more, are enough for functions of at most 60 instructions, with each number of applications.
func TestEnoughSteps(t *testing.T) {
	count := 0
	samples.Functions(t, 1500, 10, func(m api.Module) {
		if sizeOf(m).instrs > 60 {
			return
		}
		_, list := pass.Made(t, m, 0, samples.All())
		for most := 1; most <= len(list); most++ {
			made, _ := pass.Made(t, m, 0, api.Limit{Most: most})
			pass.ExpectKept(t, m, made)
			count++
		}
	})
	if count < 3000 {
		t.Errorf("%d applications", count)
	}
}
