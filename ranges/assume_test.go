package ranges_test

import (
	"math/rand/v2"
	"slices"
	"testing"

	"cupel/api"
	"cupel/ranges"
)

// P4.4: what is left of two ranges, one by one.
func TestAssume(t *testing.T) {
	for _, c := range []struct {
		op, kind int
		a, b     api.Range
		truth    bool
		x, y     api.Range
		possible bool
	}{
		{api.BiLt, api.TyInt, of(0, 10), one(5), true, of(0, 4), one(5), true},
		{api.BiLt, api.TyInt, of(0, 10), one(5), false, of(5, 10), one(5), true},
		{api.BiLt, api.TyInt, of(0, 10), of(0, 10), true, of(0, 9), of(1, 10), true},
		{api.BiLt, api.TyInt, of(5, 6), of(4, 5), true, nothing, nothing, false},
		{api.BiLt, api.TyInt, of(5, 6), of(4, 6), true, one(5), one(6), true},
		{api.BiLt, api.TyInt, of(0, 10), of(least, 0), true, nothing, nothing, false},
		{api.BiLt, api.TyInt, of(least, 10), one(least), true, nothing, nothing, false},
		{api.BiLt, api.TyInt, one(most), of(0, most), true, nothing, nothing, false},
		{api.BiLt, api.TyInt, of(least, most), of(least, most), true, of(least, most-1), of(least+1, most), true},
		{api.BiLt, api.TySmall, of(0, 255), one(0), true, nothing, nothing, false},
		{api.BiLt, api.TySmall, one(255), of(0, 255), true, nothing, nothing, false},
		{api.BiLt, api.TySmall, of(0, 255), of(0, 255), true, of(0, 254), of(1, 255), true},
		{api.BiLe, api.TyInt, of(3, 10), of(0, 5), true, of(3, 5), of(3, 5), true},
		{api.BiLe, api.TyInt, of(5, 10), of(0, 5), true, one(5), one(5), true},
		{api.BiLe, api.TyInt, of(6, 10), of(0, 5), true, nothing, nothing, false},
		{api.BiLe, api.TyInt, of(3, 10), of(0, 5), false, of(3, 10), of(0, 5), true},
		{api.BiLe, api.TyInt, of(0, 3), of(2, 9), false, of(3, 3), of(2, 2), true},
		{api.BiLe, api.TyInt, of(least, 0), one(least), true, one(least), one(least), true},
		{api.BiLe, api.TyInt, of(least, 0), one(most), false, nothing, nothing, false},
		{api.BiGt, api.TyInt, of(3, 10), of(0, 5), true, of(3, 10), of(0, 5), true},
		{api.BiGt, api.TySmall, of(0, 3), of(2, 9), true, one(3), one(2), true},
		{api.BiGt, api.TyInt, of(0, 3), of(3, 9), true, nothing, nothing, false},
		{api.BiGt, api.TyInt, of(0, 3), of(2, 9), false, of(0, 3), of(2, 9), true},
		{api.BiGt, api.TyInt, one(least), of(least, 0), true, nothing, nothing, false},
		{api.BiGt, api.TyInt, of(0, most), one(most), true, nothing, nothing, false},
		{api.BiGe, api.TyInt, of(0, 3), of(2, 9), true, of(2, 3), of(2, 3), true},
		{api.BiGe, api.TyInt, of(0, 3), of(3, 9), true, one(3), one(3), true},
		{api.BiGe, api.TyInt, of(0, 3), of(4, 9), true, nothing, nothing, false},
		{api.BiGe, api.TyInt, of(0, 3), of(2, 9), false, of(0, 3), of(2, 9), true},
		{api.BiGe, api.TyInt, of(0, 9), of(2, 5), false, of(0, 4), of(2, 5), true},
		{api.BiEq, api.TyInt, of(0, 3), of(2, 9), true, of(2, 3), of(2, 3), true},
		{api.BiEq, api.TyInt, of(0, 1), of(2, 9), true, nothing, nothing, false},
		{api.BiEq, api.TyInt, of(0, 3), one(0), false, of(1, 3), one(0), true},
		{api.BiEq, api.TyInt, one(4), one(4), false, nothing, nothing, false},
		{api.BiEq, api.TyBool, of(0, 1), one(1), true, one(1), one(1), true},
		{api.BiEq, api.TyBool, of(0, 1), one(1), false, one(0), one(1), true},
		{api.BiNe, api.TyInt, of(0, 3), one(0), true, of(1, 3), one(0), true},
		{api.BiNe, api.TyInt, of(0, 3), one(3), true, of(0, 2), one(3), true},
		{api.BiNe, api.TyInt, of(0, 3), one(2), true, of(0, 3), one(2), true},
		{api.BiNe, api.TyInt, of(0, 3), one(4), true, of(0, 3), one(4), true},
		{api.BiNe, api.TyInt, of(0, 3), one(-1), true, of(0, 3), one(-1), true},
		{api.BiNe, api.TyInt, of(0, 3), of(0, 3), true, of(0, 3), of(0, 3), true},
		{api.BiNe, api.TyInt, of(0, 3), of(0, 1), true, of(0, 3), of(0, 1), true},
		{api.BiNe, api.TyInt, one(3), of(0, 3), true, one(3), of(0, 2), true},
		{api.BiNe, api.TyInt, one(0), of(0, 3), true, one(0), of(1, 3), true},
		{api.BiNe, api.TyInt, of(3, 4), one(4), true, one(3), one(4), true},
		{api.BiNe, api.TyInt, one(3), of(0, 9), false, one(3), one(3), true},
		{api.BiNe, api.TyInt, one(3), of(4, 9), false, nothing, nothing, false},
		{api.BiNe, api.TyInt, of(least, most), one(least), true, of(least+1, most), one(least), true},
		{api.BiNe, api.TyInt, of(least, most), one(most), true, of(least, most-1), one(most), true},
		{api.BiNe, api.TyInt, one(0), one(0), true, nothing, nothing, false},
		{api.BiNe, api.TyBool, one(1), one(1), true, nothing, nothing, false},
		{api.BiNe, api.TyBool, one(1), of(0, 1), true, one(1), one(0), true},
		{api.BiNe, api.TyBool, of(0, 1), of(0, 1), true, of(0, 1), of(0, 1), true},
	} {
		x, y, possible, e := ranges.Assume(c.op, c.kind, c.a, c.b, c.truth)
		if x != c.x || y != c.y || possible != c.possible || e != api.OK {
			t.Errorf("Assume(%d, %d, %v, %v, %v): %v, %v, %v, %d, want %v, %v, %v", c.op, c.kind, c.a, c.b, c.truth, x, y, possible, e, c.x, c.y, c.possible)
		}
	}
}

// P4.4: all comparisons leave what they do in the model.
func TestAssumeModel(t *testing.T) {
	dice := rand.New(rand.NewPCG(4, 4))
	for _, kind := range kinds {
		for range 10000 {
			a, b := someRange(dice, kind), someRange(dice, kind)
			if dice.IntN(4) == 0 {
				a, b = narrowRange(dice, kind), narrowRange(dice, kind)
			}
			for op := api.BiEq; op <= api.BiGe; op++ {
				if !isComparison(op, kind) {
					continue
				}
				for _, truth := range []bool{true, false} {
					real := op
					if !truth {
						real = modelOpposite(op)
					}
					v, w, is := modelAssume(real, a, b)
					if x, y, possible, e := ranges.Assume(op, kind, a, b, truth); x != v || y != w || possible != is || e != api.OK {
						t.Fatalf("Assume(%d, %d, %v, %v, %v): %v, %v, %v, %d, want %v, %v, %v", op, kind, a, b, truth, x, y, possible, e, v, w, is)
					}
				}
			}
		}
	}
}

// P4.4, P1: what is no comparison, or none of the kind, and ranges that are not valid.
func TestAssumeArguments(t *testing.T) {
	ops := append(slices.Clone(wrongNumbers), 1, 2, 3, 4, 5, 6, 7, 8, 9, 10, 11, 12, 13, 14, 15, 16, 17, 18)
	right := of(0, 1)
	for _, kind := range append(slices.Clone(wrongNumbers), 1, 2, 3, 4) {
		pairs := [][2]api.Range{{right, right}}
		for _, wrong := range wrongRanges(kind) {
			pairs = append(pairs, [2]api.Range{wrong, right}, [2]api.Range{right, wrong}, [2]api.Range{wrong, wrong})
		}
		for _, op := range ops {
			for i, pair := range pairs {
				for _, truth := range []bool{true, false} {
					x, y, possible, e := ranges.Assume(op, kind, pair[0], pair[1], truth)
					valid := i == 0 && isComparison(op, kind)
					if valid != (e == api.OK) || !valid && (e != api.ErrArg || x != nothing || y != nothing || possible) {
						t.Errorf("Assume(%d, %d, %v, %v): %v, %v, %v, %d", op, kind, pair, truth, x, y, possible, e)
					}
				}
			}
		}
	}
}
