package fold_test

import (
	"testing"

	"cupel/api"
	"cupel/ir"
	"cupel/samples"
)

// P13.1: functions of all kinds, with all numbers of applications.
func TestMade(t *testing.T) {
	c := pass.ExpectModelOf(t, 1200, 14)
	if c.Rules[1] < 15000 || c.Rules[2] < 4000 || c.Changed[0] > 0 || c.Changed[1] < 10 || c.Changed[2] < 150 || c.Changed[3] < 150 {
		t.Errorf("%v", c)
	}
}

// P13.1: functions of up to 60 blocks.
func TestMadeLong(t *testing.T) { pass.ExpectModelOfLong(t, 300) }

// P13.1: the functions of programs.
func TestPrograms(t *testing.T) {
	if count := pass.ExpectModelOfPrograms(t, 100); count < 8000 {
		t.Errorf("%d applications", count)
	}
}

// P13.3: after some applications a second Run makes all others.
func TestTheRest(t *testing.T) {
	samples.Functions(t, 200, 14, func(m api.Module) {
		want, list := pass.Made(t, m, 0, samples.All())
		for most := range len(list) + 1 {
			half, first := pass.Made(t, m, 0, api.Limit{Most: most})
			made, rest := pass.Made(t, half, 0, samples.All())
			if !ir.Same(made, want) || len(first)+len(rest) != len(list) {
				t.Fatalf("%s\nRun with Most %d, and again:\n%s\nwant\n%s", samples.Text(m), most, samples.Text(made), samples.Text(want))
			}
		}
	})
}
