package copies_test

import (
	"testing"

	"cupel/api"
	"cupel/samples"
)

// P14.1: functions of all kinds, with all numbers of applications.
func TestMade(t *testing.T) {
	c := pass.ExpectModelOf(t, 800, 14)
	for rule := 1; rule <= 6; rule++ {
		if c.Rules[rule] < 1000 {
			t.Errorf("%v", c)
		}
	}
	for i := range pass.FaultLists() {
		if i == 0 && c.Changed[i] > 0 || i > 0 && c.Changed[i] < 30 {
			t.Errorf("%v", c)
		}
	}
}

// P14.1: functions of up to 60 blocks.
func TestMadeLong(t *testing.T) {
	samples.Functions(t, 200, 60, func(m api.Module) {
		for _, faults := range pass.FaultLists() {
			pass.ExpectModel(t, m, 0, samples.All(faults...))
		}
	})
}

// P14.1: the functions of programs.
func TestPrograms(t *testing.T) {
	if count := pass.ExpectModelOfPrograms(t, 100); count < 8000 {
		t.Errorf("%d applications", count)
	}
}
