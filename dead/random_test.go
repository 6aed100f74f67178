package dead_test

import (
	"testing"

	"cupel/api"
	"cupel/samples"
)

// P15.1: functions of all kinds, with all numbers of applications.
func TestMade(t *testing.T) {
	pass.ExpectModelOf(t, 800, 14).ExpectEnough(t, 5, 700, 30)
}

// P15.1, P15.3: functions of up to 60 blocks; nothing is left by the model.
func TestMadeLong(t *testing.T) {
	samples.Functions(t, 200, 60, func(m api.Module) {
		for _, faults := range pass.FaultLists() {
			made, _ := pass.ExpectModel(t, m, 0, samples.All(faults...))
			if _, rest, e := modelRun(made, 0, samples.All(faults...)); len(rest) > 0 || e != api.OK {
				t.Fatalf("%s\nRun with the faults %v leaves %v", samples.Text(m), faults, rest)
			}
		}
	})
}

// P15.1: the functions of programs.
func TestPrograms(t *testing.T) {
	if count := pass.ExpectModelOfPrograms(t, 100); count < 4000 {
		t.Errorf("%d applications", count)
	}
}
