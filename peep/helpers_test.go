package peep_test

import (
	"cupel/api"
	"cupel/peep"
	"cupel/samples"
)

var pass = samples.Pass{Number: api.PsPeep, Run: peep.Run, Faults: []int{api.FtShift, api.FtNotLess}, Model: modelRun}

// row is a samples.Row whose fields need no names.
type row struct{ What, Head, Before, After, Made string }

// same is a row of a function that stays as it is.
func same(what, head, body string) row { return row{what, head, body, body, ""} }
