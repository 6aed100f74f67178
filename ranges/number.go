package ranges

import (
	"cmp"
	"math/bits"
	"slices"

	"cupel/api"
)

// number is an integer of 128 bits, in two's complement: wide enough for what operators make of two values of int before it is brought into a kind.
type number struct {
	upper int64
	lower uint64
}

func numberOf(v int64) number { return number{v >> 63, uint64(v)} }

func sum(a, b int64) number {
	lower, carry := bits.Add64(uint64(a), uint64(b), 0)
	return number{a>>63 + b>>63 + int64(carry), lower}
}

func difference(a, b int64) number {
	lower, borrow := bits.Sub64(uint64(a), uint64(b), 0)
	return number{a>>63 - b>>63 - int64(borrow), lower}
}

func product(a, b int64) number {
	upper, lower := bits.Mul64(uint64(a), uint64(b))
	// Mul64 takes a factor below 0 for 2^64 more than it is: so the other factor is once too often in the upper half.
	return number{int64(upper) - (a>>63)&b - (b>>63)&a, lower}
}

// quotient needs a divisor for which the quotient is a value.
func quotient(a, b int64) number { return numberOf(a / b) }

// multiplied returns a times a power of 2, of which n, from 0 to 63, is the exponent.
func multiplied(a, n int64) number { return number{a >> (64 - n), uint64(a) << n} }

// halved returns a divided by a power of 2, of which n, from 0 to 63, is the exponent, rounded down.
func halved(a, n int64) number { return numberOf(a >> n) }

func compare(a, b number) int {
	return cmp.Or(cmp.Compare(a.upper, b.upper), cmp.Compare(a.lower, b.lower))
}

// isValue reports whether a number is a value of int.
func (n number) isValue() bool { return n == numberOf(int64(n.lower)) }

// interval is the numbers from low to high.
type interval struct{ low, high number }

// around returns the least interval that contains these numbers, of which there is at least one.
func around(ends ...number) interval {
	return interval{slices.MinFunc(ends, compare), slices.MaxFunc(ends, compare)}
}

// into brings the numbers of an interval into a kind of numbers.
func (i interval) into(kind int) api.Range {
	low, high := int64(i.low.lower), int64(i.high.lower)
	switch {
	case kind == api.TySmall && i.low.upper == i.high.upper && low>>8 == high>>8:
		return api.Range{Low: low & 255, High: high & 255}
	case kind == api.TyInt && i.low.isValue() && i.high.isValue():
		return api.Range{Low: low, High: high}
	}
	all, _ := Full(kind)
	return all
}
