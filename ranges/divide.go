package ranges

import (
	"math"

	"cupel/api"
)

// divided adds to the effect of a division what happens for the pairs that have no result. (Those that are undefined are none of small.)
func divided(a, b api.Range, effect api.Effect) api.Effect {
	effect.Trap = contains(b, 0)
	effect.Undefined = contains(a, math.MinInt64) && contains(b, -1)
	return effect
}

// divisible returns the pairs of values that have a quotient, with divisors of one sign in each part.
func divisible(a, b api.Range) []pair {
	all := api.Range{Low: math.MinInt64, High: math.MaxInt64}
	var parts []pair
	for _, p := range [...]pair{
		{all, api.Range{Low: math.MinInt64, High: -2}},
		{api.Range{Low: math.MinInt64 + 1, High: math.MaxInt64}, api.Range{Low: -1, High: -1}},
		{all, api.Range{Low: 1, High: math.MaxInt64}},
	} {
		x, some := common(a, p.a)
		y, more := common(b, p.b)
		if some && more {
			parts = append(parts, pair{x, y})
		}
	}
	return parts
}

// remainders returns the rests of divisions, if some pair of values has one.
func remainders(a, b api.Range) api.Effect {
	if len(divisible(a, b)) == 0 {
		return api.Effect{}
	}
	least, greatest := sizes(b)
	if max(size(a.Low), size(a.High)) < least {
		return sure(a)
	}
	rest := int64(greatest - 1)
	var r api.Range
	if a.Low < 0 {
		r.Low = max(a.Low, -rest)
	}
	if a.High > 0 {
		r.High = min(a.High, rest)
	}
	return sure(r)
}

// size is the absolute value.
func size(v int64) uint64 {
	if v < 0 {
		return -uint64(v)
	}
	return uint64(v)
}

// sizes returns the least and the greatest absolute value of the divisors that are not 0, of which there are some.
func sizes(b api.Range) (least, greatest uint64) {
	least, greatest = min(size(b.Low), size(b.High)), max(size(b.Low), size(b.High))
	if contains(b, 0) {
		least = 1
	}
	return least, greatest
}
