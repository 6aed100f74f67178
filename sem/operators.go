package sem

import "cupel/api"

// unary is a unary operator: for which kinds of operands there is one, and its value.
type unary struct {
	fits  func(kind int) bool
	apply func(kind int, a int64) int64
}

// binary is a binary operator: for which kinds of operands there is one, and its value, or the end of the run and its code instead.
type binary struct {
	fits  func(kind int) bool
	apply func(kind int, a, b int64) (v int64, end, code int)
}

func unaries() [api.UnComp + 1]unary {
	return [...]unary{
		api.UnNeg:  {isNumber, func(kind int, a int64) int64 { return wrap(kind, -a) }},
		api.UnNot:  {isTruth, func(_ int, a int64) int64 { return 1 - a }},
		api.UnComp: {isNumber, func(kind int, a int64) int64 { return wrap(kind, ^a) }},
	}
}

func binaries() [api.BiLor + 1]binary {
	return [...]binary{
		api.BiMul:  {isNumber, wrapped(func(a, b int64) int64 { return a * b })},
		api.BiDiv:  {isNumber, divided(func(a, b int64) int64 { return a / b })},
		api.BiRem:  {isNumber, divided(func(a, b int64) int64 { return a % b })},
		api.BiAdd:  {isNumber, wrapped(func(a, b int64) int64 { return a + b })},
		api.BiSub:  {isNumber, wrapped(func(a, b int64) int64 { return a - b })},
		api.BiShl:  {isNumber, shifted(func(a, b int64) int64 { return a << b })},
		api.BiShr:  {isNumber, shifted(func(a, b int64) int64 { return a >> b })},
		api.BiAnd:  {isNumber, wrapped(func(a, b int64) int64 { return a & b })},
		api.BiXor:  {isNumber, wrapped(func(a, b int64) int64 { return a ^ b })},
		api.BiOr:   {isNumber, wrapped(func(a, b int64) int64 { return a | b })},
		api.BiEq:   {isScalar, decided(func(a, b int64) bool { return a == b })},
		api.BiNe:   {isScalar, decided(func(a, b int64) bool { return a != b })},
		api.BiLt:   {isNumber, decided(func(a, b int64) bool { return a < b })},
		api.BiLe:   {isNumber, decided(func(a, b int64) bool { return a <= b })},
		api.BiGt:   {isNumber, decided(func(a, b int64) bool { return a > b })},
		api.BiGe:   {isNumber, decided(func(a, b int64) bool { return a >= b })},
		api.BiLand: {isTruth, decided(func(a, b int64) bool { return a+b == 2 })},
		api.BiLor:  {isTruth, decided(func(a, b int64) bool { return a+b > 0 })},
	}
}

// wrapped makes an operator that has a value for all operands.
func wrapped(value func(a, b int64) int64) func(kind int, a, b int64) (v int64, end, code int) {
	return func(kind int, a, b int64) (v int64, end, code int) {
		return wrap(kind, value(a, b)), 0, 0
	}
}

func divided(value func(a, b int64) int64) func(kind int, a, b int64) (v int64, end, code int) {
	return func(_ int, a, b int64) (v int64, end, code int) {
		if b == 0 {
			return 0, api.EnTrap, api.TrDivide
		}
		if a == -1<<63 && b == -1 {
			return 0, api.EnUndefined, api.UdLeast
		}
		return value(a, b), 0, 0
	}
}

func shifted(value func(a, b int64) int64) func(kind int, a, b int64) (v int64, end, code int) {
	return func(kind int, a, b int64) (v int64, end, code int) {
		if b < 0 || b >= bits(kind) {
			return 0, api.EnUndefined, api.UdShift
		}
		return wrap(kind, value(a, b)), 0, 0
	}
}

func decided(holds func(a, b int64) bool) func(kind int, a, b int64) (v int64, end, code int) {
	return func(_ int, a, b int64) (v int64, end, code int) {
		if holds(a, b) {
			return 1, 0, 0
		}
		return 0, 0, 0
	}
}

// bits is how many bits a number of a kind has.
func bits(kind int) int64 {
	if kind == api.TySmall {
		return 8
	}
	return 64
}

// wrap takes a result into the range of a kind of numbers; for int the machine's arithmetic has done so.
func wrap(kind int, v int64) int64 {
	if kind == api.TySmall {
		return v & 255
	}
	return v
}

func isNumber(kind int) bool { return kind == api.TyInt || kind == api.TySmall }

func isTruth(kind int) bool { return kind == api.TyBool }

func isScalar(kind int) bool { return isNumber(kind) || isTruth(kind) }

func isValue(kind int, v int64) bool {
	switch kind {
	case api.TySmall:
		return 0 <= v && v <= 255
	case api.TyBool:
		return v == 0 || v == 1
	}
	return true
}
