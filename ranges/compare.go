package ranges

import "cupel/api"

// narrowing returns what is left of two ranges if a comparison of their values is true, unless it cannot be.
type narrowing func(a, b api.Range) (x, y api.Range, possible bool)

// comparisons are those that a kind has.
func comparisons(kind int) map[int]narrowing {
	switch kind {
	case api.TyInt, api.TySmall:
		return map[int]narrowing{
			api.BiEq: equal,
			api.BiNe: unequal,
			api.BiLt: func(a, b api.Range) (x, y api.Range, possible bool) { return ordered(a, b, 1) },
			api.BiLe: func(a, b api.Range) (x, y api.Range, possible bool) { return ordered(a, b, 0) },
			api.BiGt: func(a, b api.Range) (x, y api.Range, possible bool) {
				y, x, possible = ordered(b, a, 1)
				return x, y, possible
			},
			api.BiGe: func(a, b api.Range) (x, y api.Range, possible bool) {
				y, x, possible = ordered(b, a, 0)
				return x, y, possible
			},
		}
	case api.TyBool:
		return map[int]narrowing{api.BiEq: equal, api.BiNe: unequal}
	}
	return nil
}

// opposite returns the comparison that is true where another one is not.
func opposite(op int) int {
	switch op {
	case api.BiEq:
		return api.BiNe
	case api.BiNe:
		return api.BiEq
	case api.BiLt:
		return api.BiGe
	case api.BiLe:
		return api.BiGt
	case api.BiGt:
		return api.BiLe
	}
	return api.BiLt
}

func equal(a, b api.Range) (x, y api.Range, possible bool) {
	r, some := common(a, b)
	return r, r, some
}

func unequal(a, b api.Range) (x, y api.Range, possible bool) {
	if a == b && isSingle(a) {
		return api.Range{}, api.Range{}, false
	}
	return without(a, b), without(b, a), true
}

// without returns a without the value of b, if b has no other one and it is an end of a. (It is not all of a.)
func without(a, b api.Range) api.Range {
	switch {
	case !isSingle(b):
	case a.Low == b.Low:
		a.Low++
	case a.High == b.Low:
		a.High--
	}
	return a
}

// ordered returns what is left if the value of a is less than that of b by at least gap, which is 0 or 1.
func ordered(a, b api.Range, gap int64) (x, y api.Range, possible bool) {
	if a.Low > b.High || a.Low == b.High && gap > 0 {
		return api.Range{}, api.Range{}, false
	}
	// Here b.High - gap and a.Low + gap are values: there is room between a.Low and b.High.
	x = api.Range{Low: a.Low, High: min(a.High, b.High-gap)}
	y = api.Range{Low: max(b.Low, a.Low+gap), High: b.High}
	return x, y, true
}
