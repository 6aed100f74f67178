package sem_test

import (
	"math"
	"math/big"
	"testing"

	"cupel/api"
	"cupel/sem"
)

const least, most = math.MinInt64, math.MaxInt64

// numbersOf are values of a kind, with those at the edges; of small and bool all.
func numbersOf(kind int) []int64 {
	switch kind {
	case api.TySmall:
		return upTo(255)
	case api.TyBool:
		return upTo(1)
	}
	list := []int64{least, least + 1, -1 << 32, -256, -255, -64, -63, -9, -8, -7, -2, most, most - 1, 1 << 62, 1 << 32, 256, 255, 100, 3037000500, -3037000500}
	for n := int64(-1); n < 66; n++ {
		list = append(list, n)
	}
	return list
}

func upTo(n int64) []int64 {
	var list []int64
	for i := int64(0); i <= n; i++ {
		list = append(list, i)
	}
	return list
}

// P3.3, P3.5: the values of unary operators are those of the model, for all sorts of operands.
func TestUnaryModel(t *testing.T) {
	for op := -1; op < 6; op++ {
		for kind := -1; kind < 6; kind++ {
			for _, a := range numbersOf(kind) {
				want, e := modelUnary(op, kind, a), api.OK
				if want == nil {
					want, e = new(big.Int), api.ErrArg
				}
				if got, f := sem.Unary(op, kind, a); got != want.Int64() || f != e {
					t.Errorf("Unary(%d, %d, %d): %d, %d, want %v, %d", op, kind, a, got, f, want, e)
				}
			}
		}
	}
}

// P3.3, P3.5: so are those of binary operators, and how they end a run.
func TestBinaryModel(t *testing.T) {
	for op := -1; op < 22; op++ {
		for kind := -1; kind < 6; kind++ {
			for _, a := range numbersOf(kind) {
				for _, b := range numbersOf(kind) {
					want, ok := modelBinary(op, kind, a, b)
					e := api.OK
					if !ok {
						e = api.ErrArg
					}
					v, end, code, f := sem.Binary(op, kind, a, b)
					if v != want.v || end != want.end || code != want.code || f != e {
						t.Fatalf("Binary(%d, %d, %d, %d): %d, %d, %d, %d, want %v, %d", op, kind, a, b, v, end, code, f, want, e)
					}
				}
			}
		}
	}
}

// P3.3: operands that are not values of the kind, and operators and kinds that there are not.
func TestOperatorArguments(t *testing.T) {
	edges := []int64{least, -256, -1, 0, 1, 2, 255, 256, most}
	ops := []int{math.MinInt, -1, 0, 1, 2, 3, 4, 5, 10, 11, 13, 17, 18, 19, math.MaxInt}
	isValue := func(kind int, v int64) bool {
		return kind == api.TyInt || kind == api.TySmall && 0 <= v && v < 256 || kind == api.TyBool && (v == 0 || v == 1)
	}
	for _, op := range ops {
		for _, kind := range []int{math.MinInt, -1, 0, 1, 2, 3, 4, math.MaxInt} {
			for _, a := range edges {
				valid := modelUnary(op, kind, 1) != nil && isValue(kind, a)
				if v, e := sem.Unary(op, kind, a); valid != (e == api.OK) || !valid && (e != api.ErrArg || v != 0) {
					t.Errorf("Unary(%d, %d, %d): %d, %d", op, kind, a, v, e)
				}
				for _, b := range edges {
					_, valid := modelBinary(op, kind, 1, 1)
					valid = valid && isValue(kind, a) && isValue(kind, b)
					v, end, code, e := sem.Binary(op, kind, a, b)
					if valid != (e == api.OK) || !valid && (e != api.ErrArg || v != 0 || end != 0 || code != 0) {
						t.Errorf("Binary(%d, %d, %d, %d): %d, %d, %d, %d", op, kind, a, b, v, end, code, e)
					}
				}
			}
		}
	}
}

// P3.3: values as the chapter has them, one by one.
func TestOperatorValues(t *testing.T) {
	for _, c := range []struct {
		op, kind  int
		a, b, v   int64
		end, code int
	}{
		{api.BiMul, api.TyInt, most, 2, -2, 0, 0},
		{api.BiMul, api.TySmall, 255, 255, 1, 0, 0},
		{api.BiDiv, api.TyInt, 7, -2, -3, 0, 0},
		{api.BiDiv, api.TyInt, -1, 2, 0, 0, 0},
		{api.BiDiv, api.TyInt, least, 1, least, 0, 0},
		{api.BiDiv, api.TyInt, least, 0, 0, api.EnTrap, api.TrDivide},
		{api.BiDiv, api.TySmall, 255, 2, 127, 0, 0},
		{api.BiDiv, api.TySmall, 0, 0, 0, api.EnTrap, api.TrDivide},
		{api.BiRem, api.TyInt, -7, 2, -1, 0, 0},
		{api.BiRem, api.TyInt, -7, -2, -1, 0, 0},
		{api.BiRem, api.TyInt, least, -1, 0, api.EnUndefined, api.UdLeast},
		{api.BiRem, api.TyInt, least + 1, -1, 0, 0, 0},
		{api.BiRem, api.TyInt, 5, 0, 0, api.EnTrap, api.TrDivide},
		{api.BiAdd, api.TyInt, most, 1, least, 0, 0},
		{api.BiAdd, api.TySmall, 200, 100, 44, 0, 0},
		{api.BiSub, api.TyInt, least, 1, most, 0, 0},
		{api.BiSub, api.TySmall, 0, 255, 1, 0, 0},
		{api.BiShl, api.TyInt, 3, 63, least, 0, 0},
		{api.BiShl, api.TyInt, 1, 64, 0, api.EnUndefined, api.UdShift},
		{api.BiShl, api.TyInt, 0, -1, 0, api.EnUndefined, api.UdShift},
		{api.BiShl, api.TySmall, 255, 7, 128, 0, 0},
		{api.BiShr, api.TyInt, least, 62, -2, 0, 0},
		{api.BiShr, api.TyInt, 1, most, 0, api.EnUndefined, api.UdShift},
		{api.BiShr, api.TySmall, 255, 7, 1, 0, 0},
		{api.BiShr, api.TySmall, 255, 8, 0, api.EnUndefined, api.UdShift},
		{api.BiAnd, api.TyInt, -6, 3, 2, 0, 0},
		{api.BiXor, api.TyInt, -1, 5, -6, 0, 0},
		{api.BiOr, api.TySmall, 160, 15, 175, 0, 0},
		{api.BiEq, api.TyBool, 0, 0, 1, 0, 0},
		{api.BiNe, api.TySmall, 4, 5, 1, 0, 0},
		{api.BiLt, api.TyInt, least, most, 1, 0, 0},
		{api.BiLe, api.TyInt, 4, 4, 1, 0, 0},
		{api.BiGt, api.TySmall, 200, 100, 1, 0, 0},
		{api.BiGe, api.TyInt, -1, 0, 0, 0, 0},
		{api.BiLand, api.TyBool, 1, 0, 0, 0, 0},
		{api.BiLor, api.TyBool, 1, 1, 1, 0, 0},
	} {
		v, end, code, e := sem.Binary(c.op, c.kind, c.a, c.b)
		if v != c.v || end != c.end || code != c.code || e != api.OK {
			t.Errorf("Binary(%d, %d, %d, %d): %d, %d, %d, %d, want %d, %d, %d", c.op, c.kind, c.a, c.b, v, end, code, e, c.v, c.end, c.code)
		}
	}
}

// P3.3: whether behaviours agree, whatever they are.
func TestAgree(t *testing.T) {
	behaviour := func(end, code int, out ...int64) api.Behaviour { return api.Behaviour{Out: out, End: end, Code: code} }
	for _, c := range []struct {
		a, b api.Behaviour
		want bool
	}{
		{behaviour(api.EnDone, 0), behaviour(api.EnDone, 0), true},
		{behaviour(api.EnDone, 0), api.Behaviour{Out: []int64{}, End: api.EnDone}, true},
		{behaviour(api.EnDone, 0, 1, 2), behaviour(api.EnDone, 0, 1, 2), true},
		{behaviour(api.EnDone, 0, 1, 2), behaviour(api.EnDone, 0, 1, 3), false},
		{behaviour(api.EnDone, 0, 1), behaviour(api.EnDone, 0, 1, 2), false},
		{behaviour(api.EnDone, 0, 1), behaviour(api.EnTrap, api.TrIndex, 1), false},
		{behaviour(api.EnDone, 0, 1), behaviour(api.EnDone, 1, 1), false},
		{behaviour(api.EnTrap, api.TrDivide), behaviour(api.EnTrap, api.TrIndex), false},
		{behaviour(api.EnTrap, api.TrDivide), behaviour(api.EnUndefined, api.UdShift), false},
		{behaviour(api.EnSteps, 0), behaviour(api.EnDone, 0), true},
		{behaviour(api.EnSteps, 0), behaviour(api.EnUndefined, api.UdLeast, 7), true},
		{behaviour(api.EnSteps, 0, 7), behaviour(api.EnUndefined, api.UdLeast, 7), true},
		{behaviour(api.EnSteps, 0, 7, 8), behaviour(api.EnTrap, api.TrStated, 7), false},
		{behaviour(api.EnSteps, 0, 8), behaviour(api.EnTrap, api.TrStated, 7, 8), false},
		{behaviour(api.EnSteps, 0, 1), behaviour(api.EnSteps, 0, 1, 2), true},
		{behaviour(api.EnSteps, 0, 1), behaviour(api.EnSteps, 0, 2), false},
		{behaviour(api.EnSteps, 5, 1), behaviour(api.EnDone, 0, 1, 2), true},
		{behaviour(api.EnSteps, 5, 1), behaviour(-9, 3, 1, 2), true},
		{behaviour(-9, 3, 1), behaviour(-9, 3, 1), true},
		{behaviour(-9, 3, 1), behaviour(-9, 3, 1, 2), false},
		{api.Behaviour{}, api.Behaviour{}, true},
		{api.Behaviour{}, behaviour(api.EnSteps, 0), true},
		{api.Behaviour{}, behaviour(api.EnDone, 0), false},
	} {
		if got, back := sem.Agree(c.a, c.b), sem.Agree(c.b, c.a); got != c.want || back != c.want {
			t.Errorf("Agree(%v, %v): %v, the other way round %v", c.a, c.b, got, back)
		}
	}
}
