package ranges

import "cupel/api"

// operator says what a binary operator does for two ranges of its kind.
type operator func(a, b api.Range) api.Effect

// pair is two ranges: all pairs of a value of the one and a value of the other.
type pair struct{ a, b api.Range }

// unaries are the unary operators that a kind has.
func unaries(kind int) map[int]func(a api.Range) api.Range {
	all, _ := Full(kind)
	// To turn the values of a kind round is ~ of numbers, and ! of truths.
	turned := func(a api.Range) api.Range {
		ends := all.Low + all.High
		return api.Range{Low: ends - a.High, High: ends - a.Low}
	}
	negative := func(a api.Range) api.Range {
		return around(difference(0, a.Low), difference(0, a.High)).into(kind)
	}
	switch kind {
	case api.TyInt, api.TySmall:
		return map[int]func(a api.Range) api.Range{api.UnNeg: negative, api.UnComp: turned}
	case api.TyBool:
		return map[int]func(a api.Range) api.Range{api.UnNot: turned}
	}
	return nil
}

// binaryOf finds a binary operator of a kind.
func binaryOf(op, kind int) (apply operator, found bool) {
	if narrowings := comparisons(kind); narrowings[op] != nil {
		return compared(narrowings[op], narrowings[opposite(op)]), true
	}
	switch kind {
	case api.TyInt, api.TySmall:
		if apply, found = bitwise(kind)[op]; !found {
			apply, found = arithmetic(kind)[op]
		}
	case api.TyBool:
		apply, found = connectives()[op]
	}
	return apply, found
}

// arithmetic is the operators of a kind of numbers that calculate, shifts among them.
func arithmetic(kind int) map[int]operator {
	return map[int]operator{
		api.BiMul: func(a, b api.Range) api.Effect { return calculated(kind, product, pair{a, b}) },
		api.BiDiv: func(a, b api.Range) api.Effect {
			return divided(a, b, calculated(kind, quotient, divisible(a, b)...))
		},
		api.BiRem: func(a, b api.Range) api.Effect { return divided(a, b, remainders(a, b)) },
		api.BiAdd: func(a, b api.Range) api.Effect { return calculated(kind, sum, pair{a, b}) },
		api.BiSub: func(a, b api.Range) api.Effect { return calculated(kind, difference, pair{a, b}) },
		api.BiShl: func(a, b api.Range) api.Effect { return shifted(kind, multiplied, a, b) },
		api.BiShr: func(a, b api.Range) api.Effect { return shifted(kind, halved, a, b) },
	}
}

// bitwise is the operators of a kind of numbers that work on bits.
func bitwise(kind int) map[int]operator {
	return map[int]operator{
		api.BiAnd: func(a, b api.Range) api.Effect {
			if isSingle(a) && isSingle(b) {
				return only(a.Low & b.Low)
			}
			return sure(conjoined(kind, a, b))
		},
		api.BiXor: func(a, b api.Range) api.Effect {
			if isSingle(a) && isSingle(b) {
				return only(a.Low ^ b.Low)
			}
			return sure(filled(kind, 0, a, b))
		},
		api.BiOr: func(a, b api.Range) api.Effect {
			if isSingle(a) && isSingle(b) {
				return only(a.Low | b.Low)
			}
			return sure(filled(kind, max(a.Low, b.Low), a, b))
		},
	}
}

// connectives are the operators of truths that are no comparisons.
func connectives() map[int]operator {
	return map[int]operator{
		api.BiLand: func(a, b api.Range) api.Effect {
			return sure(api.Range{Low: a.Low * b.Low, High: a.High * b.High})
		},
		api.BiLor: func(a, b api.Range) api.Effect {
			return sure(api.Range{Low: max(a.Low, b.Low), High: max(a.High, b.High)})
		},
	}
}

// compared makes an operator of what a comparison leaves of ranges, and of what its opposite does.
func compared(holds, fails narrowing) operator {
	return func(a, b api.Range) api.Effect {
		r := api.Range{Low: 0, High: 1}
		if _, _, possible := holds(a, b); !possible {
			r.High = 0
		}
		if _, _, possible := fails(a, b); !possible {
			r.Low = 1
		}
		return sure(r)
	}
}

// sure is the effect of an operator that has a result for all pairs.
func sure(r api.Range) api.Effect { return api.Effect{R: r, Some: true} }

func only(v int64) api.Effect { return sure(api.Range{Low: v, High: v}) }

// calculated returns the results for the pairs that have one. In each of the parts the operator must rise or fall, or stay, with each operand while the other one is the same: so the ends are results of ends.
func calculated(kind int, apply func(a, b int64) number, parts ...pair) api.Effect {
	var ends []number
	for _, p := range parts {
		for _, a := range [2]int64{p.a.Low, p.a.High} {
			ends = append(ends, apply(a, p.b.Low), apply(a, p.b.High))
		}
	}
	if len(ends) == 0 {
		return api.Effect{}
	}
	return sure(around(ends...).into(kind))
}

// shifted returns the effect of a shift, which is defined for amounts that are less than the bits of a number.
func shifted(kind int, apply func(a, b int64) number, a, b api.Range) api.Effect {
	allowed := api.Range{Low: 0, High: 63}
	if kind == api.TySmall {
		allowed.High = 7
	}
	amounts, some := common(b, allowed)
	var effect api.Effect
	if some {
		effect = calculated(kind, apply, pair{a, amounts})
	}
	effect.Undefined = amounts != b
	return effect
}
