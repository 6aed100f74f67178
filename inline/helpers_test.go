package inline_test

import (
	"testing"

	"cupel/api"
	"cupel/inline"
	"cupel/samples"
)

var pass = samples.Pass{Number: api.PsInline, Run: inline.Run, Faults: []int{api.FtZeros, api.FtRegisters}, Model: modelRun, Steps: enough, Form: samples.NoPhi}

// enough says how many steps P18.2 speaks of.
func enough(before int) int { return 100*before + 100 }

// row is a function f, which is Main, before and after all applications, and these; and what other functions there are. The text of f begins with how many registers it has.
type row struct{ what, others, before, after, made string }

// module is one of the function f, as a row has it, and others.
func module(t *testing.T, f, others string) api.Module {
	t.Helper()
	return samples.Read(t, "cell c = 5; array x[2]; array y[3] small; main f; func f params 0 regs "+f+" } "+others)
}

// expect wants what rows say, with faults, and runs to stay the same without any.
func expect(t *testing.T, rows []row, faults ...int) {
	t.Helper()
	for _, r := range rows {
		before, after := module(t, r.before, r.others), module(t, r.after, r.others)
		pass.ExpectMade(t, r.what, before, after, 0, samples.All(faults...), r.made)
		if len(faults) == 0 {
			pass.ExpectKept(t, before, after)
		}
	}
}

// same is a row of a function that stays as it is.
func same(what, others, f string) row { return row{what, others, f, f, ""} }
