package gen

import (
	"testing"

	"cupel/api"
	"cupel/syntax"
)

// P6.2: with no statements left it is the least program. No seed is known that leads there.
func TestNothingLeft(t *testing.T) {
	for seed := range uint64(3) {
		s, e := syntax.Print(fitting(api.Plan{Seed: seed, Funcs: 4, Depth: 4}))
		if want := "func main() {\n\tprint 0;\n}\n"; s != want || e != api.OK {
			t.Errorf("%q, error %d, want %q", s, e, want)
		}
	}
}
