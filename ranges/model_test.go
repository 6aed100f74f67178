package ranges_test

import (
	"math/big"
	"slices"

	"cupel/api"
)

// The model says a second time what the chapter says, with numbers of any size: where the chapter speaks of all pairs, it tries those at which something may change.

// span is the numbers from low to high.
type span struct{ low, high *big.Int }

func big64(v int64) *big.Int { return big.NewInt(v) }

func power(n int64) *big.Int { return new(big.Int).Lsh(big64(1), uint(n)) }

func modelFull(kind int) api.Range {
	return map[int]api.Range{api.TyInt: of(least, most), api.TySmall: of(0, 255), api.TyBool: of(0, 1)}[kind]
}

// around is the least span that contains numbers.
func around(list []*big.Int) span {
	return span{slices.MinFunc(list, (*big.Int).Cmp), slices.MaxFunc(list, (*big.Int).Cmp)}
}

func (s span) into(kind int) api.Range {
	if kind == api.TyInt {
		if s.low.IsInt64() && s.high.IsInt64() {
			return of(s.low.Int64(), s.high.Int64())
		}
		return of(least, most)
	}
	// DivMod rounds down for divisors above 0.
	low, lowRest := new(big.Int).DivMod(s.low, big64(256), new(big.Int))
	high, highRest := new(big.Int).DivMod(s.high, big64(256), new(big.Int))
	if low.Cmp(high) == 0 {
		return of(lowRest.Int64(), highRest.Int64())
	}
	return of(0, 255)
}

// tried are the values of a range at which something may change.
func tried(r api.Range) []int64 {
	var list []int64
	for _, v := range []int64{r.Low, r.Low + 1, -2, -1, 0, 1, 2, 7, 8, 63, 64, r.High - 1, r.High} {
		if contains(r, v) {
			list = append(list, v)
		}
	}
	return list
}

// number is what arithmetic gives for two values, as a number of any size; or nil, and whether that is a trap, or undefined.
func number(op, kind int, a, b int64) (n *big.Int, trap, undefined bool) {
	x, y := big64(a), big64(b)
	bits := map[int]int64{api.TyInt: 64, api.TySmall: 8}[kind]
	switch op {
	case api.BiMul:
		return new(big.Int).Mul(x, y), false, false
	case api.BiAdd:
		return new(big.Int).Add(x, y), false, false
	case api.BiSub:
		return new(big.Int).Sub(x, y), false, false
	case api.BiDiv, api.BiRem:
		if b == 0 || kind == api.TyInt && a == least && b == -1 {
			return nil, b == 0, b != 0
		}
		if op == api.BiDiv {
			return new(big.Int).Quo(x, y), false, false
		}
		return new(big.Int).Rem(x, y), false, false
	case api.BiShl, api.BiShr:
		if b < 0 || b >= bits {
			return nil, false, true
		}
		if op == api.BiShl {
			return new(big.Int).Mul(x, power(b)), false, false
		}
		return new(big.Int).Div(x, power(b)), false, false
	case api.BiAnd:
		return new(big.Int).And(x, y), false, false
	case api.BiXor:
		return new(big.Int).Xor(x, y), false, false
	}
	return new(big.Int).Or(x, y), false, false
}

// truth says whether a comparison, or && or ||, is true.
func truth(op int, a, b int64) bool {
	return map[int]bool{api.BiEq: a == b, api.BiNe: a != b, api.BiLt: a < b, api.BiLe: a <= b, api.BiGt: a > b, api.BiGe: a >= b, api.BiLand: a != 0 && b != 0, api.BiLor: a != 0 || b != 0}[op]
}

func modelUnary(op, kind int, a api.Range) api.Range {
	switch op {
	case api.UnNeg:
		return around([]*big.Int{new(big.Int).Neg(big64(a.Low)), new(big.Int).Neg(big64(a.High))}).into(kind)
	case api.UnNot:
		return of(1-a.High, 1-a.Low)
	}
	if kind == api.TySmall {
		return of(255-a.High, 255-a.Low)
	}
	return of(^a.High, ^a.Low)
}

func modelBinary(op, kind int, a, b api.Range) api.Effect {
	if op >= api.BiEq {
		return modelTruth(op, a, b)
	}
	var x api.Effect
	var results []*big.Int
	for _, v := range tried(a) {
		for _, w := range tried(b) {
			n, trap, undefined := number(op, kind, v, w)
			x.Trap, x.Undefined = x.Trap || trap, x.Undefined || undefined
			if n != nil {
				results = append(results, n)
			}
		}
	}
	if len(results) == 0 {
		return x
	}
	x.Some = true
	switch op {
	case api.BiRem:
		x.R = modelRem(a, b)
	case api.BiAnd, api.BiXor, api.BiOr:
		x.R = modelBits(op, kind, a, b)
	default:
		x.R = around(results).into(kind)
	}
	return x
}

// modelTruth is for operators with a truth as their result: what they yield for all sorts of pairs.
func modelTruth(op int, a, b api.Range) api.Effect {
	x := sure(1, 0)
	// For == it matters whether there are values in both, for < and so on the ends.
	shared := tried(of(max(a.Low, b.Low), min(a.High, b.High)))
	for _, v := range append(tried(a), shared...) {
		for _, w := range append(tried(b), shared...) {
			if truth(op, v, w) {
				x.R.High = 1
			} else {
				x.R.Low = 0
			}
		}
	}
	return x
}

func modelRem(a, b api.Range) api.Range {
	var sizes []*big.Int
	for _, w := range tried(b) {
		if w != 0 {
			sizes = append(sizes, new(big.Int).Abs(big64(w)))
		}
	}
	s := around(sizes)
	smaller := func(v int64) bool { return new(big.Int).Abs(big64(v)).Cmp(s.low) < 0 }
	if smaller(a.Low) && smaller(a.High) {
		return a
	}
	rest := new(big.Int).Sub(s.high, big64(1)).Int64()
	return of(min(0, max(a.Low, -rest)), max(0, min(a.High, rest)))
}

func modelBits(op, kind int, a, b api.Range) api.Range {
	if a.Low == a.High && b.Low == b.High {
		n, _, _ := number(op, kind, a.Low, b.Low)
		return one(n.Int64())
	}
	if a.Low < 0 && b.Low < 0 || op != api.BiAnd && (a.Low < 0 || b.Low < 0) {
		return modelFull(kind)
	}
	if op == api.BiAnd {
		high := int64(most)
		if a.Low >= 0 {
			high = a.High
		}
		if b.Low >= 0 {
			high = min(high, b.High)
		}
		return of(0, high)
	}
	filled := new(big.Int)
	for filled.Cmp(big64(a.High)) < 0 || filled.Cmp(big64(b.High)) < 0 {
		filled.Add(filled, filled).Add(filled, big64(1))
	}
	if op == api.BiXor {
		return of(0, filled.Int64())
	}
	return of(max(a.Low, b.Low), filled.Int64())
}

// modelAssume returns what is left of a and b if a comparison is true, and whether something is.
func modelAssume(op int, a, b api.Range) (x, y api.Range, possible bool) {
	switch op {
	case api.BiGt, api.BiGe:
		y, x, possible = modelAssume(map[int]int{api.BiGt: api.BiLt, api.BiGe: api.BiLe}[op], b, a)
		return x, y, possible
	case api.BiNe:
		x, some := modelWithout(a, b)
		y, more := modelWithout(b, a)
		if !some || !more {
			return nothing, nothing, false
		}
		return x, y, true
	}
	v, w := span{big64(a.Low), big64(a.High)}, span{big64(b.Low), big64(b.High)}
	gap := big64(0)
	if op == api.BiLt {
		gap = big64(1)
	}
	v.high = around([]*big.Int{v.high, new(big.Int).Sub(w.high, gap)}).low
	w.low = around([]*big.Int{w.low, new(big.Int).Add(v.low, gap)}).high
	if op == api.BiEq {
		v.low, w.high = w.low, v.high
	}
	if v.low.Cmp(v.high) > 0 || w.low.Cmp(w.high) > 0 {
		return nothing, nothing, false
	}
	return of(v.low.Int64(), v.high.Int64()), of(w.low.Int64(), w.high.Int64()), true
}

// modelWithout returns a without the value of b, if that is a single one at an end of a, and whether something is left.
func modelWithout(a, b api.Range) (api.Range, bool) {
	if b.Low != b.High || b.Low != a.Low && b.Low != a.High {
		return a, true
	}
	if a == b {
		return nothing, false
	}
	if b.Low == a.Low {
		return of(a.Low+1, a.High), true
	}
	return of(a.Low, a.High-1), true
}

func modelOpposite(op int) int {
	return map[int]int{api.BiEq: api.BiNe, api.BiNe: api.BiEq, api.BiLt: api.BiGe, api.BiGe: api.BiLt, api.BiLe: api.BiGt, api.BiGt: api.BiLe}[op]
}
