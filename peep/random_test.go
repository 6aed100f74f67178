package peep_test

import "testing"

// P16.1: functions of all kinds, with all numbers of applications.
func TestMade(t *testing.T) {
	pass.ExpectModelOf(t, 1600, 14).ExpectEnough(t, 21, 50, 40)
}

// P16.1: functions of up to 60 blocks.
func TestMadeLong(t *testing.T) { pass.ExpectModelOfLong(t, 200) }

// P16.1: the functions of programs.
func TestPrograms(t *testing.T) {
	if count := pass.ExpectModelOfPrograms(t, 100); count < 2000 {
		t.Errorf("%d applications", count)
	}
}
