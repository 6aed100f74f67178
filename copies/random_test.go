package copies_test

import "testing"

// P14.1: functions of all kinds, with all numbers of applications.
func TestMade(t *testing.T) {
	pass.ExpectModelOf(t, 800, 14).ExpectEnough(t, 6, 1000, 30)
}

// P14.1: functions of up to 60 blocks.
func TestMadeLong(t *testing.T) { pass.ExpectModelOfLong(t, 200) }

// P14.1: the functions of programs.
func TestPrograms(t *testing.T) {
	if count := pass.ExpectModelOfPrograms(t, 100); count < 8000 {
		t.Errorf("%d applications", count)
	}
}
