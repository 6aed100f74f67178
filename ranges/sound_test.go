package ranges_test

import (
	"math/big"
	"math/rand/v2"
	"slices"
	"testing"

	"cupel/api"
	"cupel/ranges"
	"cupel/sem"
)

// seen is what an operator does for all pairs of values of two ranges, by what programs mean.
type seen struct {
	least, most             int64
	some, traps, undefineds bool
}

func (s *seen) add(v int64) {
	if !s.some {
		s.least, s.most, s.some = v, v, true
	}
	s.least, s.most = min(s.least, v), max(s.most, v)
}

func look(t *testing.T, op, kind int, a, b api.Range) seen {
	t.Helper()
	var s seen
	for _, v := range values(a) {
		for _, w := range values(b) {
			r, end, _, e := sem.Binary(op, kind, v, w)
			switch {
			case e != api.OK:
				t.Fatalf("sem.Binary(%d, %d, %d, %d): %d", op, kind, v, w, e)
			case end == api.EnTrap:
				s.traps = true
			case end == api.EnUndefined:
				s.undefineds = true
			default:
				s.add(r)
			}
		}
	}
	return s
}

// narrowPairs hands out pairs of narrow ranges of each kind; of bool all.
func narrowPairs(much int, do func(kind int, a, b api.Range)) {
	dice := rand.New(rand.NewPCG(4, 5))
	for _, kind := range numberKinds {
		for range much {
			do(kind, narrowRange(dice, kind), narrowRange(dice, kind))
		}
	}
	truths := []api.Range{one(0), one(1), of(0, 1)}
	for _, a := range truths {
		for _, b := range truths {
			do(api.TyBool, a, b)
		}
	}
}

// P4.5: results of values lie in R, and Trap and Undefined are true if and only if a pair traps, or is undefined.
func TestResultsOfValues(t *testing.T) {
	narrowPairs(600, func(kind int, a, b api.Range) {
		for op := api.BiMul; op <= api.BiLor; op++ {
			if !isBinary(op, kind) {
				continue
			}
			s := look(t, op, kind, a, b)
			x, e := ranges.Binary(op, kind, a, b)
			if e != api.OK || x.Some != s.some || x.Trap != s.traps || x.Undefined != s.undefineds {
				t.Fatalf("Binary(%d, %d, %v, %v): %v, %d, but %v", op, kind, a, b, x, e, s)
			}
			if s.some && !within(of(s.least, s.most), x.R) || !s.some && x.R != nothing {
				t.Fatalf("Binary(%d, %d, %v, %v): %v, but %v", op, kind, a, b, x, s)
			}
		}
	})
}

// P4.5: so do those of unary operators, and of the conversion to small.
func TestResultsOfOneValue(t *testing.T) {
	narrowPairs(2000, func(kind int, a, _ api.Range) {
		for op := api.UnNeg; op <= api.UnComp; op++ {
			r, e := ranges.Unary(op, kind, a)
			for _, v := range values(a) {
				w, f := sem.Unary(op, kind, v)
				if e != f || e == api.OK && !contains(r, w) {
					t.Fatalf("Unary(%d, %d, %v): %v, %d, but %d becomes %d, %d", op, kind, a, r, e, v, w, f)
				}
			}
		}
		r, e := ranges.ToSmall(a)
		for _, v := range values(a) {
			if e != api.OK || !contains(r, v&255) {
				t.Fatalf("ToSmall(%v): %v, %d, but %d becomes %d", a, r, e, v, v&255)
			}
		}
	})
}

// P4.5: results for values of wide ranges lie in R as well.
func TestWideResults(t *testing.T) {
	dice := rand.New(rand.NewPCG(4, 6))
	for _, kind := range numberKinds {
		for range 6000 {
			a, b := someRange(dice, kind), someRange(dice, kind)
			v, w := someValue(dice, a), someValue(dice, b)
			for op := api.BiMul; op <= api.BiGe; op++ {
				r, end, _, _ := sem.Binary(op, kind, v, w)
				x, e := ranges.Binary(op, kind, a, b)
				if e != api.OK || end == api.EnTrap && !x.Trap || end == api.EnUndefined && !x.Undefined || end == 0 && (!x.Some || !contains(x.R, r)) {
					t.Fatalf("Binary(%d, %d, %v, %v): %v, %d, but %d, %d gives %d, end %d", op, kind, a, b, x, e, v, w, r, end)
				}
			}
			for _, op := range []int{api.UnNeg, api.UnComp} {
				u, _ := sem.Unary(op, kind, v)
				if r, e := ranges.Unary(op, kind, a); e != api.OK || !contains(r, u) {
					t.Fatalf("Unary(%d, %d, %v): %v, %d, but %d gives %d", op, kind, a, r, e, v, u)
				}
			}
			if r, e := ranges.ToSmall(a); e != api.OK || !contains(r, v&255) {
				t.Fatalf("ToSmall(%v): %v, %d, but %d gives %d", a, r, e, v, v&255)
			}
		}
	}
}

// someValue is a value of a range, often near an end.
func someValue(dice *rand.Rand, r api.Range) int64 {
	near := []int64{r.Low, r.High, 0, 1, -1, r.Low + dice.Int64N(9), r.High - dice.Int64N(9), int64(dice.Uint64())}
	v := near[dice.IntN(len(near))]
	if !contains(r, v) {
		return r.Low
	}
	return v
}

// P4.5: values for which a comparison is true, or not, are left by Assume. What is left is no more than the least ranges around them.
func TestAssumedValues(t *testing.T) {
	narrowPairs(1500, func(kind int, a, b api.Range) {
		for op := api.BiEq; op <= api.BiGe; op++ {
			if !isComparison(op, kind) {
				continue
			}
			for _, truth := range []bool{true, false} {
				var left, right seen
				for _, v := range values(a) {
					for _, w := range values(b) {
						if r, _, _, _ := sem.Binary(op, kind, v, w); (r == 1) == truth {
							left.add(v)
							right.add(w)
						}
					}
				}
				x, y, possible, e := ranges.Assume(op, kind, a, b, truth)
				if x != of(left.least, left.most) || y != of(right.least, right.most) || possible != left.some || e != api.OK {
					t.Fatalf("Assume(%d, %d, %v, %v, %v): %v, %v, %v, %d, but %v, %v", op, kind, a, b, truth, x, y, possible, e, left, right)
				}
			}
		}
	})
}

// P4.6: R is the least range for quotients, shifts to the right and comparisons; for sums, differences, products and shifts to the left of int if nothing overflows.
func TestLeastRanges(t *testing.T) {
	always := []int{api.BiDiv, api.BiShr, api.BiEq, api.BiNe, api.BiLt, api.BiLe, api.BiGt, api.BiGe}
	ofInt := []int{api.BiAdd, api.BiSub, api.BiMul, api.BiShl}
	looked := map[int]int{}
	narrowPairs(1500, func(kind int, a, b api.Range) {
		for op := api.BiMul; op <= api.BiGe; op++ {
			if !isBinary(op, kind) || !slices.Contains(always, op) && (kind != api.TyInt || !slices.Contains(ofInt, op) || overflows(op, a, b)) {
				continue
			}
			s := look(t, op, kind, a, b)
			if x, _ := ranges.Binary(op, kind, a, b); x.R != of(s.least, s.most) {
				t.Fatalf("Binary(%d, %d, %v, %v): %v, but %v", op, kind, a, b, x, s)
			}
			if s.some {
				looked[op]++
			}
		}
		if kind == api.TyInt && a.Low > least {
			if r, _ := ranges.Unary(api.UnNeg, kind, a); r != of(-a.High, -a.Low) {
				t.Fatalf("Unary(%d, %d, %v): %v", api.UnNeg, kind, a, r)
			}
		}
	})
	for _, op := range append(always, ofInt...) {
		if looked[op] < 200 {
			t.Errorf("operator %d: %d pairs", op, looked[op])
		}
	}
}

// overflows reports whether some result of an operator of int that has one is no value.
func overflows(op int, a, b api.Range) bool {
	var results []*big.Int
	for _, v := range values(a) {
		for _, w := range values(b) {
			if n, _, _ := number(op, api.TyInt, v, w); n != nil {
				results = append(results, n)
			}
		}
	}
	return slices.ContainsFunc(results, func(n *big.Int) bool { return !n.IsInt64() })
}

// P4.6: of greater ranges nothing gets smaller: neither R, nor what may happen.
func TestGreaterRanges(t *testing.T) {
	dice := rand.New(rand.NewPCG(4, 7))
	for _, kind := range kinds {
		for range 8000 {
			a, b := someRange(dice, kind), someRange(dice, kind)
			wideA, wideB := wider(dice, kind, a), wider(dice, kind, b)
			for op := api.BiMul; op <= api.BiLor; op++ {
				if !isBinary(op, kind) {
					continue
				}
				x, _ := ranges.Binary(op, kind, a, b)
				y, _ := ranges.Binary(op, kind, wideA, wideB)
				if x.Trap && !y.Trap || x.Undefined && !y.Undefined || x.Some && (!y.Some || !within(x.R, y.R)) {
					t.Fatalf("Binary(%d, %d, %v, %v): %v, of %v, %v: %v", op, kind, a, b, x, wideA, wideB, y)
				}
			}
			for op := api.UnNeg; op <= api.UnComp; op++ {
				x, e := ranges.Unary(op, kind, a)
				y, f := ranges.Unary(op, kind, wideA)
				if e != f || !within(x, y) {
					t.Fatalf("Unary(%d, %d, %v): %v, of %v: %v", op, kind, a, x, wideA, y)
				}
			}
			x, _ := ranges.ToSmall(a)
			if y, _ := ranges.ToSmall(wideA); !within(x, y) {
				t.Fatalf("ToSmall(%v): %v, of %v: %v", a, x, wideA, y)
			}
		}
	}
}

// wider is a range of a kind that contains another one.
func wider(dice *rand.Rand, kind int, r api.Range) api.Range {
	s := someRange(dice, kind)
	if dice.IntN(3) == 0 {
		return r
	}
	return of(min(r.Low, s.Low), max(r.High, s.High))
}
