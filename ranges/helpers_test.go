package ranges_test

import (
	"math"
	"math/rand/v2"

	"cupel/api"
)

const least, most = math.MinInt64, math.MaxInt64

var numberKinds = []int{api.TyInt, api.TySmall}

var kinds = []int{api.TyInt, api.TySmall, api.TyBool}

var nothing = api.Range{}

func of(low, high int64) api.Range { return api.Range{Low: low, High: high} }

func one(v int64) api.Range { return of(v, v) }

func sure(low, high int64) api.Effect { return api.Effect{R: of(low, high), Some: true} }

func isNumeric(kind int) bool { return kind == api.TyInt || kind == api.TySmall }

// isUnary and isBinary report whether a kind has an operator, as the chapter lists them.
func isUnary(op, kind int) bool {
	if op == api.UnNot {
		return kind == api.TyBool
	}
	return (op == api.UnNeg || op == api.UnComp) && isNumeric(kind)
}

func isBinary(op, kind int) bool {
	switch op {
	case api.BiLand, api.BiLor:
		return kind == api.TyBool
	case api.BiMul, api.BiDiv, api.BiRem, api.BiAdd, api.BiSub, api.BiShl, api.BiShr, api.BiAnd, api.BiXor, api.BiOr:
		return isNumeric(kind)
	}
	return isComparison(op, kind)
}

func isComparison(op, kind int) bool {
	switch op {
	case api.BiEq, api.BiNe:
		return isNumeric(kind) || kind == api.TyBool
	case api.BiLt, api.BiLe, api.BiGt, api.BiGe:
		return isNumeric(kind)
	}
	return false
}

// isRange reports whether a range of a kind is valid.
func isRange(kind int, r api.Range) bool {
	switch kind {
	case api.TyInt:
		return r.Low <= r.High
	case api.TySmall:
		return 0 <= r.Low && r.Low <= r.High && r.High <= 255
	case api.TyBool:
		return r == of(0, 0) || r == of(0, 1) || r == of(1, 1)
	}
	return false
}

func contains(r api.Range, v int64) bool { return r.Low <= v && v <= r.High }

func within(r, wide api.Range) bool { return wide.Low <= r.Low && r.High <= wide.High }

// endsOf are values of a kind between which something changes, ascending.
func endsOf(kind int) []int64 {
	switch kind {
	case api.TySmall:
		return []int64{0, 1, 2, 3, 4, 6, 7, 8, 9, 15, 16, 17, 63, 64, 100, 127, 128, 129, 200, 240, 250, 252, 253, 254, 255}
	case api.TyBool:
		return []int64{0, 1}
	}
	list := []int64{least, least + 1, least + 2, -1 << 62, -1 << 32, -3037000500, -257, -256, -255, -100, -65, -64, -63, -20}
	for v := int64(-9); v < 10; v++ {
		list = append(list, v)
	}
	return append(list, 20, 62, 63, 64, 65, 100, 127, 128, 255, 256, 511, 512, 3037000500, 1<<32, 1<<62, most-2, most-1, most)
}

// someRange is a range of a kind, often a narrow one.
func someRange(dice *rand.Rand, kind int) api.Range {
	ends := endsOf(kind)
	i := dice.IntN(len(ends))
	j := dice.IntN(len(ends))
	if dice.IntN(2) == 0 {
		j = min(i+dice.IntN(4), len(ends)-1)
	}
	return of(ends[min(i, j)], ends[max(i, j)])
}

// narrowRange is a range of a kind of at most 12 values, often at an end of the kind or around 0.
func narrowRange(dice *rand.Rand, kind int) api.Range {
	ends := endsOf(kind)
	r := one(ends[dice.IntN(len(ends))])
	for range dice.IntN(12) {
		if dice.IntN(2) == 0 && isRange(kind, of(r.Low-1, r.High)) {
			r.Low--
		} else if r.High < most && isRange(kind, of(r.Low, r.High+1)) {
			r.High++
		}
	}
	return r
}

// values are those of a range, ascending.
func values(r api.Range) []int64 {
	list := []int64{r.Low}
	for v := r.Low; v < r.High; v++ {
		list = append(list, v+1)
	}
	return list
}

// wrongRanges are ranges that are not valid for a kind.
func wrongRanges(kind int) []api.Range {
	list := []api.Range{of(1, 0), of(most, least), of(0, -1), of(most, most-1)}
	if kind != api.TyInt {
		list = append(list, of(-1, 0), of(-1, -1), of(0, 256), of(256, 256), of(least, most), of(least, least), of(most, most))
	}
	if kind == api.TyBool {
		list = append(list, of(0, 2), of(2, 2), of(0, 255), of(1, 2))
	}
	return list
}

// wrongNumbers are the numbers of no kind, and of no operator.
var wrongNumbers = []int{math.MinInt, -1 << 32, -2, -1, 0, 19, 20, 257, 1<<32 + 1, math.MaxInt}
