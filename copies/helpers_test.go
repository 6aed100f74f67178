package copies_test

import (
	"cupel/api"
	"cupel/copies"
	"cupel/samples"
)

var pass = samples.Pass{Number: api.PsCopies, Run: copies.Run, Faults: []int{api.FtMinus, api.FtOverStore, api.FtOverCall}, Model: modelRun}

// row is a samples.Row whose fields need no names.
type row struct{ What, Head, Before, After, Made string }

// same is a row of a function that stays as it is.
func same(what, head, body string) row { return row{what, head, body, body, ""} }
