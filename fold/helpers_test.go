package fold_test

import (
	"testing"

	"cupel/api"
	"cupel/fold"
	"cupel/samples"
)

var pass = samples.Pass{Number: api.PsFold, Run: fold.Run, Faults: []int{api.FtEqualLess, api.FtFirstOnly}, Model: modelRun}

// row is a samples.Row whose fields need no names.
type row struct{ What, Head, Before, After, Made string }

func expect(t *testing.T, x api.Limit, rows []row) {
	t.Helper()
	for _, r := range rows {
		pass.Expect(t, x, samples.Row(r))
	}
}

func expectSound(t *testing.T, rows []row) {
	t.Helper()
	for _, r := range rows {
		pass.ExpectSound(t, samples.Row(r))
	}
}
