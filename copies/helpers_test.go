package copies_test

import (
	"testing"

	"cupel/api"
	"cupel/copies"
	"cupel/samples"
)

var pass = samples.Pass{Number: api.PsCopies, Run: copies.Run, Faults: []int{api.FtMinus, api.FtOverStore, api.FtOverCall}, Model: modelRun}

// row is a samples.Row whose fields need no names.
type row struct{ What, Head, Before, After, Made string }

func expect(t *testing.T, x api.Limit, rows []row) {
	t.Helper()
	for _, r := range rows {
		pass.Expect(t, x, samples.Row(r))
	}
}

func expectSound(t *testing.T, rows []row) {
	t.Helper()
	for _, r := range rows {
		pass.ExpectSound(t, samples.Row(r))
	}
}

// same is a row of a function that stays as it is.
func same(what, head, body string) row { return row{what, head, body, body, ""} }
