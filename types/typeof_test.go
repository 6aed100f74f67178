package types_test

import (
	"fmt"
	"math"
	"testing"

	"cupel/api"
	"cupel/syntax"
	"cupel/types"
)

const typical = `global g: int = 1;
global s: small[3];
func f(a: small[3], b: bool): small {
	if b {
		return a[g];
	} else {
		return small(-g);
	}
}
func h() {
	g = 2;
}
func main() {
	let x: int[2];
	h();
	x[int(f(s, !true))] = g;
	while f(s, g < 3) != 1s upto 5 {
		for i in 0 .. x[0] + 1 {
			print ~1s & 2s == f(s, false) && true;
		}
	}
}
`

// P2.2: types of all expressions of a program.
func TestTypeOf(t *testing.T) {
	p := read(t, typical)
	want := map[string]string{
		"[0 0 2]": "bool", "[0 0 0 0 2]": "small", "[0 0 0 0 2 0]": "int", "[0 0 1 0 2]": "small", "[0 0 1 0 2 0]": "int", "[0 0 1 0 2 0 0]": "int",
		"[1 0 2]": "int", "[2 1 2]": "none",
		"[2 2 2]": "int", "[2 2 2 0]": "small", "[2 2 2 0 0]": "small[3]", "[2 2 2 0 1]": "bool", "[2 2 2 0 1 0]": "bool", "[2 2 3]": "int",
		"[2 3 2]": "bool", "[2 3 2 0]": "small", "[2 3 2 0 0]": "small[3]", "[2 3 2 0 1]": "bool", "[2 3 2 0 1 0]": "int", "[2 3 2 0 1 1]": "int", "[2 3 2 1]": "small",
		"[2 3 0 0 2]": "int", "[2 3 0 0 3]": "int", "[2 3 0 0 3 0]": "int", "[2 3 0 0 3 0 0]": "int", "[2 3 0 0 3 1]": "int",
		"[2 3 0 0 0 0 2]": "bool", "[2 3 0 0 0 0 2 0]": "bool", "[2 3 0 0 0 0 2 0 0]": "small", "[2 3 0 0 0 0 2 0 0 0]": "small", "[2 3 0 0 0 0 2 0 0 0 0]": "small", "[2 3 0 0 0 0 2 0 0 1]": "small",
		"[2 3 0 0 0 0 2 0 1]": "small", "[2 3 0 0 0 0 2 0 1 0]": "small[3]", "[2 3 0 0 0 0 2 0 1 1]": "bool", "[2 3 0 0 0 0 2 1]": "bool",
	}
	paths, _ := syntax.Places(p)
	found := 0
	for _, path := range paths {
		w, isExpr := want[fmt.Sprint(path)]
		got, e := types.TypeOf(p, path)
		if isExpr && (e != api.OK || showType(got) != w) || !isExpr && (e != api.ErrNone || got != api.Type{}) {
			t.Errorf("TypeOf %v: %s, %d, want %q", path, showType(got), e, w)
		}
		if isExpr {
			found++
		}
	}
	if found != len(want) {
		t.Errorf("%d of %d expressions", found, len(want))
	}
}

// P2.2: paths of no expression.
func TestTypeOfNothing(t *testing.T) {
	p := read(t, typical)
	for _, path := range [][]int{nil, {}, {0}, {3}, {-1}, {0, 0}, {0, 0, 0}, {0, 0, 0, 0}, {0, 0, 1, 1}, {0, 0, 3}, {0, 0, 1}, {0, 0, 2, 0}, {0, 0, -1}, {2, 0, 2}, {2, 1, 2, 0}, {2, 2, 4}, {2, 4}, {2, 4, 2}, {2, 2, 2, 0, 2}, {3, 0, 2}, {math.MinInt, 0, 2}, {2, math.MaxInt, 2}, {2, 2, math.MaxInt}, {2, 2, 2, math.MinInt}} {
		if got, e := types.TypeOf(p, path); e != api.ErrNone || got != (api.Type{}) {
			t.Errorf("TypeOf %v: %v, %d", path, got, e)
		}
	}
}
