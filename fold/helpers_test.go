package fold_test

import (
	"cupel/api"
	"cupel/fold"
	"cupel/samples"
)

var pass = samples.Pass{Number: api.PsFold, Run: fold.Run, Faults: []int{api.FtEqualLess, api.FtFirstOnly}, Model: modelRun}

// row is a samples.Row whose fields need no names.
type row struct{ What, Head, Before, After, Made string }
