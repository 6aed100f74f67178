package ranges_test

import (
	"math/rand/v2"
	"slices"
	"testing"

	"cupel/api"
	"cupel/ranges"
)

// binaryCase is two ranges of a kind, and the effect of an operator on them.
type binaryCase struct {
	kind int
	a, b api.Range
	want api.Effect
}

func expect(t *testing.T, op int, cases ...binaryCase) {
	t.Helper()
	for _, c := range cases {
		if x, e := ranges.Binary(op, c.kind, c.a, c.b); x != c.want || e != api.OK {
			t.Errorf("Binary(%d, %d, %v, %v): %v, %d, want %v", op, c.kind, c.a, c.b, x, e, c.want)
		}
	}
}

func traps(x api.Effect) api.Effect {
	x.Trap = true
	return x
}

func undefined(x api.Effect) api.Effect {
	x.Undefined = true
	return x
}

var none api.Effect

var allInts = sure(least, most)

// P4.3: sums, differences and products.
func TestArithmetic(t *testing.T) {
	expect(t, api.BiAdd,
		binaryCase{api.TyInt, of(1, 3), of(10, 20), sure(11, 23)},
		binaryCase{api.TyInt, of(250, 255), of(3, 10), sure(253, 265)},
		binaryCase{api.TySmall, of(250, 255), of(3, 10), sure(0, 255)},
		binaryCase{api.TySmall, of(250, 252), of(1, 3), sure(251, 255)},
		binaryCase{api.TySmall, of(250, 255), of(6, 10), sure(0, 9)},
		binaryCase{api.TySmall, one(255), one(255), sure(254, 254)},
		binaryCase{api.TyInt, one(most), of(0, 1), allInts},
		binaryCase{api.TyInt, one(most), one(1), allInts},
		binaryCase{api.TyInt, one(most - 1), of(0, 1), sure(most-1, most)},
		binaryCase{api.TyInt, one(least), one(most), sure(-1, -1)},
		binaryCase{api.TyInt, one(least), of(-1, 5), allInts},
		binaryCase{api.TyInt, of(least, 0), of(0, most), allInts},
		binaryCase{api.TyInt, one(least), one(least), allInts},
	)
	expect(t, api.BiSub,
		binaryCase{api.TySmall, of(5, 6), one(10), sure(251, 252)},
		binaryCase{api.TySmall, of(5, 6), of(5, 6), sure(0, 255)},
		binaryCase{api.TySmall, of(5, 6), of(4, 5), sure(0, 2)},
		binaryCase{api.TyInt, of(1, 3), of(10, 20), sure(-19, -7)},
		binaryCase{api.TyInt, one(0), one(least), allInts},
		binaryCase{api.TyInt, one(-1), one(least), sure(most, most)},
		binaryCase{api.TyInt, of(least, 0), one(1), allInts},
		binaryCase{api.TyInt, one(-2), one(most), allInts},
		binaryCase{api.TyInt, one(-1), one(most), sure(least, least)},
	)
	expect(t, api.BiMul,
		binaryCase{api.TyInt, of(-3, 5), of(-2, 7), sure(-21, 35)},
		binaryCase{api.TyInt, of(-3, -2), of(-5, -4), sure(8, 15)},
		binaryCase{api.TyInt, of(2, 3), of(-5, 4), sure(-15, 12)},
		binaryCase{api.TyInt, of(-1, 1), of(least, 0), allInts},
		binaryCase{api.TyInt, of(0, 1), of(least, 0), sure(least, 0)},
		binaryCase{api.TyInt, one(1 << 32), one(1 << 31), allInts},
		binaryCase{api.TyInt, one(-1 << 32), one(1 << 31), sure(least, least)},
		binaryCase{api.TyInt, one(1 << 32), of(0, 1<<32), allInts},
		binaryCase{api.TyInt, one(least), one(least), allInts},
		binaryCase{api.TyInt, one(most), of(-1, 1), sure(-most, most)},
		binaryCase{api.TySmall, one(16), of(16, 17), sure(0, 16)},
		binaryCase{api.TySmall, one(16), of(15, 16), sure(0, 255)},
		binaryCase{api.TySmall, one(255), one(255), sure(1, 1)},
		binaryCase{api.TySmall, of(0, 15), of(3, 17), sure(0, 255)},
	)
}

// P4.3: quotients: only those of pairs that have one.
func TestQuotients(t *testing.T) {
	expect(t, api.BiDiv,
		binaryCase{api.TyInt, of(-7, 9), of(-2, 3), traps(sure(-9, 9))},
		binaryCase{api.TyInt, of(-7, 9), of(2, 3), sure(-3, 4)},
		binaryCase{api.TyInt, of(7, 9), of(-3, -2), sure(-4, -2)},
		binaryCase{api.TyInt, of(7, 9), of(0, 2), traps(sure(3, 9))},
		binaryCase{api.TyInt, of(7, 9), of(-2, 0), traps(sure(-9, -3))},
		binaryCase{api.TyInt, of(5, 9), one(0), traps(none)},
		binaryCase{api.TyInt, one(least), one(-1), undefined(none)},
		binaryCase{api.TyInt, one(least), of(-1, 0), traps(undefined(none))},
		binaryCase{api.TyInt, one(least), of(-1, 1), traps(undefined(sure(least, least)))},
		binaryCase{api.TyInt, one(least), of(-2, -1), undefined(sure(1<<62, 1<<62))},
		binaryCase{api.TyInt, of(least, 10), one(-1), undefined(sure(-10, most))},
		binaryCase{api.TyInt, of(least, least+1), one(-1), undefined(sure(most, most))},
		binaryCase{api.TyInt, of(least, least+1), of(-2, -1), undefined(sure(1<<62-1, most))},
		binaryCase{api.TyInt, of(least, most), of(least, most), traps(undefined(allInts))},
		binaryCase{api.TyInt, of(least+1, 10), one(-1), sure(-10, most)},
		binaryCase{api.TyInt, one(least), one(1), sure(least, least)},
		binaryCase{api.TyInt, one(-1), of(2, 5), sure(0, 0)},
		binaryCase{api.TyInt, one(100), of(least, -3), sure(-33, 0)},
		binaryCase{api.TySmall, of(5, 200), of(0, 3), traps(sure(1, 200))},
		binaryCase{api.TySmall, of(5, 200), one(0), traps(none)},
		binaryCase{api.TySmall, of(5, 200), of(2, 255), sure(0, 100)},
		binaryCase{api.TySmall, of(0, 255), of(0, 255), traps(sure(0, 255))},
	)
}

// P4.3: rests.
func TestRests(t *testing.T) {
	expect(t, api.BiRem,
		binaryCase{api.TyInt, of(-5, 20), one(4), sure(-3, 3)},
		binaryCase{api.TyInt, of(2, 3), one(10), sure(2, 3)},
		binaryCase{api.TyInt, of(2, 3), one(-10), sure(2, 3)},
		binaryCase{api.TyInt, of(-9, 9), of(10, 12), sure(-9, 9)},
		binaryCase{api.TyInt, of(-9, 10), of(10, 12), sure(-9, 10)},
		binaryCase{api.TyInt, of(-2, 30), of(-5, 3), traps(sure(-2, 4))},
		binaryCase{api.TyInt, of(5, 30), of(-5, 3), traps(sure(0, 4))},
		binaryCase{api.TyInt, of(-30, -5), of(-5, 3), traps(sure(-4, 0))},
		binaryCase{api.TyInt, of(5, 6), of(6, 9), sure(0, 6)},
		binaryCase{api.TyInt, of(4, 5), of(6, 9), sure(4, 5)},
		binaryCase{api.TyInt, of(4, 5), of(-9, -6), sure(4, 5)},
		binaryCase{api.TyInt, one(3), of(0, 9), traps(sure(0, 3))},
		binaryCase{api.TyInt, one(0), of(-9, 0), traps(sure(0, 0))},
		binaryCase{api.TyInt, one(7), one(0), traps(none)},
		binaryCase{api.TyInt, one(7), of(-1, 1), traps(sure(0, 0))},
		binaryCase{api.TyInt, one(least), one(least), sure(-most, 0)},
		binaryCase{api.TyInt, of(least+1, 4), one(least), sure(least+1, 4)},
		binaryCase{api.TyInt, of(least, 0), one(-1), undefined(sure(0, 0))},
		binaryCase{api.TyInt, one(least), one(-1), undefined(none)},
		binaryCase{api.TyInt, one(least), of(-1, 0), undefined(traps(none))},
		binaryCase{api.TyInt, one(least), of(-2, -1), undefined(sure(-1, 0))},
		binaryCase{api.TyInt, of(least, most), of(least, most), undefined(traps(sure(-most, most)))},
		binaryCase{api.TySmall, of(5, 200), of(0, 3), traps(sure(0, 2))},
		binaryCase{api.TySmall, of(5, 200), of(201, 255), sure(5, 200)},
		binaryCase{api.TySmall, of(5, 200), of(200, 255), sure(0, 200)},
		binaryCase{api.TySmall, of(5, 200), one(0), traps(none)},
	)
}

// P4.3: shifts, by amounts of which some may not be allowed.
func TestShifts(t *testing.T) {
	expect(t, api.BiShl,
		binaryCase{api.TySmall, of(1, 3), one(7), sure(0, 255)},
		binaryCase{api.TySmall, of(1, 3), one(2), sure(4, 12)},
		binaryCase{api.TySmall, of(64, 65), one(2), sure(0, 4)},
		binaryCase{api.TySmall, one(1), of(0, 8), undefined(sure(1, 128))},
		binaryCase{api.TySmall, one(1), one(8), undefined(none)},
		binaryCase{api.TyInt, one(1), of(0, 64), undefined(allInts)},
		binaryCase{api.TyInt, one(1), of(0, 62), sure(1, 1<<62)},
		binaryCase{api.TyInt, of(-1, 1), of(0, 62), sure(-1<<62, 1<<62)},
		binaryCase{api.TyInt, one(-1), one(63), sure(least, least)},
		binaryCase{api.TyInt, one(-2), one(63), allInts},
		binaryCase{api.TyInt, one(1), one(63), allInts},
		binaryCase{api.TyInt, one(0), of(least, most), undefined(sure(0, 0))},
		binaryCase{api.TyInt, of(3, 5), of(-2, 1), undefined(sure(3, 10))},
		binaryCase{api.TyInt, of(-5, -3), of(1, 2), sure(-20, -6)},
		binaryCase{api.TyInt, one(1), of(-3, -1), undefined(none)},
		binaryCase{api.TyInt, one(1), of(64, 99), undefined(none)},
		binaryCase{api.TyInt, one(least), of(0, 63), allInts},
		binaryCase{api.TyInt, one(least), one(0), sure(least, least)},
	)
	expect(t, api.BiShr,
		binaryCase{api.TyInt, of(-5, 100), of(1, 3), sure(-3, 50)},
		binaryCase{api.TyInt, of(-100, -5), of(1, 3), sure(-50, -1)},
		binaryCase{api.TyInt, of(least, most), one(63), sure(-1, 0)},
		binaryCase{api.TyInt, of(7, 100), of(-1, 64), undefined(sure(0, 100))},
		binaryCase{api.TyInt, one(7), one(64), undefined(none)},
		binaryCase{api.TyInt, one(7), one(-1), undefined(none)},
		binaryCase{api.TySmall, of(200, 255), of(4, 9), undefined(sure(1, 15))},
		binaryCase{api.TySmall, of(200, 255), of(0, 7), sure(1, 255)},
		binaryCase{api.TySmall, of(200, 255), of(8, 63), undefined(none)},
	)
}

// P4.3: bits.
func TestBits(t *testing.T) {
	expect(t, api.BiAnd,
		binaryCase{api.TyInt, of(-5, 100), of(0, 15), sure(0, 15)},
		binaryCase{api.TyInt, of(0, 15), of(-5, 100), sure(0, 15)},
		binaryCase{api.TyInt, of(0, 15), of(0, 9), sure(0, 9)},
		binaryCase{api.TyInt, one(-5), one(12), sure(8, 8)},
		binaryCase{api.TyInt, one(-5), one(-3), sure(-7, -7)},
		binaryCase{api.TyInt, one(-5), of(12, 13), sure(0, 13)},
		binaryCase{api.TyInt, of(-5, 1), of(-3, 1), allInts},
		binaryCase{api.TyInt, of(-5, -4), one(-1), allInts},
		binaryCase{api.TySmall, of(16, 31), of(32, 63), sure(0, 31)},
	)
	expect(t, api.BiOr,
		binaryCase{api.TyInt, of(3, 4), one(8), sure(8, 15)},
		binaryCase{api.TyInt, of(9, 12), of(1, 7), sure(9, 15)},
		binaryCase{api.TyInt, one(3), one(8), sure(11, 11)},
		binaryCase{api.TyInt, one(-4), one(1), sure(-3, -3)},
		binaryCase{api.TyInt, one(-4), of(1, 2), allInts},
		binaryCase{api.TyInt, of(1, 2), one(-4), allInts},
		binaryCase{api.TyInt, of(0, most), of(0, 1), sure(0, most)},
		binaryCase{api.TyInt, of(0, 7), of(0, 8), sure(0, 15)},
		binaryCase{api.TyInt, of(0, 7), of(0, 1), sure(0, 7)},
		binaryCase{api.TyInt, of(0, 1), one(0), sure(0, 1)},
		binaryCase{api.TySmall, of(128, 129), of(0, 255), sure(128, 255)},
	)
	expect(t, api.BiXor,
		binaryCase{api.TyInt, of(3, 4), one(8), sure(0, 15)},
		binaryCase{api.TyInt, one(12), one(10), sure(6, 6)},
		binaryCase{api.TyInt, one(-1), one(5), sure(-6, -6)},
		binaryCase{api.TyInt, one(-1), of(5, 6), allInts},
		binaryCase{api.TyInt, of(5, 6), of(-1, 0), allInts},
		binaryCase{api.TyInt, of(0, 1<<62), of(0, 1), sure(0, most)},
		binaryCase{api.TySmall, one(255), one(1), sure(254, 254)},
		binaryCase{api.TySmall, of(16, 17), of(20, 21), sure(0, 31)},
	)
}

// P4.3: comparisons, and the connectives of truths.
func TestTruths(t *testing.T) {
	yes, no, either := sure(1, 1), sure(0, 0), sure(0, 1)
	expect(t, api.BiEq, binaryCase{api.TyInt, one(1), one(1), yes}, binaryCase{api.TyInt, of(1, 2), of(3, 4), no}, binaryCase{api.TyInt, of(1, 2), of(2, 4), either}, binaryCase{api.TyInt, of(1, 2), of(1, 2), either}, binaryCase{api.TyBool, one(0), one(0), yes}, binaryCase{api.TySmall, one(7), one(8), no})
	expect(t, api.BiNe, binaryCase{api.TyInt, one(1), one(1), no}, binaryCase{api.TyInt, of(1, 2), of(3, 4), yes}, binaryCase{api.TyInt, of(1, 2), of(2, 4), either}, binaryCase{api.TyBool, of(0, 1), one(1), either}, binaryCase{api.TyBool, one(0), one(1), yes})
	expect(t, api.BiLt, binaryCase{api.TyInt, of(1, 2), of(2, 4), either}, binaryCase{api.TyInt, of(1, 2), of(3, 4), yes}, binaryCase{api.TyInt, of(4, 5), of(3, 4), no}, binaryCase{api.TyInt, one(least), one(most), yes}, binaryCase{api.TyInt, one(most), of(least, most), no})
	expect(t, api.BiLe, binaryCase{api.TyInt, of(1, 2), of(2, 4), yes}, binaryCase{api.TyInt, of(1, 3), of(2, 4), either}, binaryCase{api.TySmall, of(5, 6), of(3, 4), no}, binaryCase{api.TySmall, of(4, 6), of(3, 4), either}, binaryCase{api.TyInt, one(least), of(least, most), yes})
	expect(t, api.BiGt, binaryCase{api.TyInt, of(1, 2), one(2), no}, binaryCase{api.TyInt, of(1, 3), one(2), either}, binaryCase{api.TyInt, of(3, 4), of(1, 2), yes}, binaryCase{api.TyInt, one(least), of(least, most), no})
	expect(t, api.BiGe, binaryCase{api.TyInt, one(2), of(1, 2), yes}, binaryCase{api.TyInt, one(1), of(1, 2), either}, binaryCase{api.TySmall, of(1, 2), of(3, 4), no}, binaryCase{api.TyInt, one(most), of(least, most), yes})
	expect(t, api.BiLand, binaryCase{api.TyBool, of(0, 1), one(1), either}, binaryCase{api.TyBool, of(0, 1), one(0), no}, binaryCase{api.TyBool, one(1), one(1), yes}, binaryCase{api.TyBool, one(0), of(0, 1), no})
	expect(t, api.BiLor, binaryCase{api.TyBool, of(0, 1), one(1), yes}, binaryCase{api.TyBool, of(0, 1), one(0), either}, binaryCase{api.TyBool, one(0), one(0), no}, binaryCase{api.TyBool, one(1), of(0, 1), yes})
}

// P4.3: unary operators.
func TestUnary(t *testing.T) {
	for _, c := range []struct {
		op, kind int
		a, want  api.Range
	}{
		{api.UnNeg, api.TyInt, of(-3, 5), of(-5, 3)},
		{api.UnNeg, api.TyInt, of(least+1, 0), of(0, most)},
		{api.UnNeg, api.TyInt, of(least, 0), of(least, most)},
		{api.UnNeg, api.TyInt, one(least), of(least, most)},
		{api.UnNeg, api.TyInt, one(most), one(-most)},
		{api.UnNeg, api.TySmall, of(1, 5), of(251, 255)},
		{api.UnNeg, api.TySmall, of(1, 255), of(1, 255)},
		{api.UnNeg, api.TySmall, of(0, 5), of(0, 255)},
		{api.UnNeg, api.TySmall, one(0), one(0)},
		{api.UnComp, api.TyInt, of(-3, 5), of(-6, 2)},
		{api.UnComp, api.TyInt, of(least, most), of(least, most)},
		{api.UnComp, api.TyInt, one(least), one(most)},
		{api.UnComp, api.TyInt, of(0, most), of(least, -1)},
		{api.UnComp, api.TySmall, of(0, 5), of(250, 255)},
		{api.UnComp, api.TySmall, of(200, 255), of(0, 55)},
		{api.UnNot, api.TyBool, one(0), one(1)},
		{api.UnNot, api.TyBool, one(1), one(0)},
		{api.UnNot, api.TyBool, of(0, 1), of(0, 1)},
	} {
		if r, e := ranges.Unary(c.op, c.kind, c.a); r != c.want || e != api.OK {
			t.Errorf("Unary(%d, %d, %v): %v, %d, want %v", c.op, c.kind, c.a, r, e, c.want)
		}
	}
}

// P4.3: all operators of all kinds are those of the model.
func TestOperatorModel(t *testing.T) {
	dice := rand.New(rand.NewPCG(4, 3))
	for _, kind := range kinds {
		for range 4000 {
			a, b := someRange(dice, kind), someRange(dice, kind)
			if dice.IntN(4) == 0 {
				a, b = narrowRange(dice, kind), narrowRange(dice, kind)
			}
			for op := api.UnNeg; op <= api.UnComp; op++ {
				if r, e := ranges.Unary(op, kind, a); isUnary(op, kind) && (r != modelUnary(op, kind, a) || e != api.OK) {
					t.Fatalf("Unary(%d, %d, %v): %v, %d, want %v", op, kind, a, r, e, modelUnary(op, kind, a))
				}
			}
			for op := api.BiMul; op <= api.BiLor; op++ {
				if !isBinary(op, kind) {
					continue
				}
				want := modelBinary(op, kind, a, b)
				if x, e := ranges.Binary(op, kind, a, b); x != want || e != api.OK {
					t.Fatalf("Binary(%d, %d, %v, %v): %v, %d, want %v", op, kind, a, b, x, e, want)
				}
			}
		}
	}
}

// P4.3, P1: operators that a kind does not have, numbers that are none, and ranges that are not valid.
func TestOperatorArguments(t *testing.T) {
	ops := append(slices.Clone(wrongNumbers), 1, 2, 3, 4, 5, 6, 7, 8, 9, 10, 11, 12, 13, 14, 15, 16, 17, 18)
	right := of(0, 1)
	for _, kind := range append(slices.Clone(wrongNumbers), 1, 2, 3, 4) {
		for _, op := range ops {
			if r, e := ranges.Unary(op, kind, right); (e == api.OK) != isUnary(op, kind) || e != api.OK && (e != api.ErrArg || r != nothing) {
				t.Errorf("Unary(%d, %d, %v): %v, %d", op, kind, right, r, e)
			}
			if x, e := ranges.Binary(op, kind, right, right); (e == api.OK) != isBinary(op, kind) || e != api.OK && (e != api.ErrArg || x != none) {
				t.Errorf("Binary(%d, %d, %v, %v): %v, %d", op, kind, right, right, x, e)
			}
			for _, wrong := range wrongRanges(kind) {
				if r, e := ranges.Unary(op, kind, wrong); r != nothing || e != api.ErrArg {
					t.Errorf("Unary(%d, %d, %v): %v, %d", op, kind, wrong, r, e)
				}
				for _, pair := range [][2]api.Range{{wrong, right}, {right, wrong}, {wrong, wrong}} {
					if x, e := ranges.Binary(op, kind, pair[0], pair[1]); x != none || e != api.ErrArg {
						t.Errorf("Binary(%d, %d, %v): %v, %d", op, kind, pair, x, e)
					}
				}
			}
		}
	}
}
