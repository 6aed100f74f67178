package irsem_test

import (
	"math"
	"math/big"
	"testing"

	"cupel/api"
	"cupel/irsem"
)

const (
	least    = math.MinInt64
	greatest = math.MaxInt64
)

// operation is an operation in numbers of any size: its result, before it is taken modulo 2^64, or nil for a trap.
type operation func(a, b *big.Int) *big.Int

var operations = makeOperations()

func makeOperations() map[int]operation {
	bit := func(holds func(order int) bool) operation {
		return func(a, b *big.Int) *big.Int {
			if holds(a.Cmp(b)) {
				return big.NewInt(1)
			}
			return new(big.Int)
		}
	}
	divided := func(result operation) operation {
		return func(a, b *big.Int) *big.Int {
			if b.Sign() == 0 {
				return nil
			}
			return result(a, b)
		}
	}
	return map[int]operation{
		api.IbAdd: func(a, b *big.Int) *big.Int { return new(big.Int).Add(a, b) },
		api.IbSub: func(a, b *big.Int) *big.Int { return new(big.Int).Sub(a, b) },
		api.IbMul: func(a, b *big.Int) *big.Int { return new(big.Int).Mul(a, b) },
		api.IbDiv: divided(func(a, b *big.Int) *big.Int { return new(big.Int).Quo(a, b) }),
		api.IbRem: divided(func(a, b *big.Int) *big.Int { return new(big.Int).Rem(a, b) }),
		api.IbAnd: func(a, b *big.Int) *big.Int { return new(big.Int).And(a, b) },
		api.IbOr:  func(a, b *big.Int) *big.Int { return new(big.Int).Or(a, b) },
		api.IbXor: func(a, b *big.Int) *big.Int { return new(big.Int).Xor(a, b) },
		api.IbShl: func(a, b *big.Int) *big.Int { return new(big.Int).Lsh(a, places(b)) },
		api.IbShr: func(a, b *big.Int) *big.Int { return new(big.Int).Rsh(a, places(b)) },
		api.IbEq:  bit(func(order int) bool { return order == 0 }),
		api.IbNe:  bit(func(order int) bool { return order != 0 }),
		api.IbLt:  bit(func(order int) bool { return order < 0 }),
		api.IbLe:  bit(func(order int) bool { return order <= 0 }),
	}
}

// places is how far a shift goes.
func places(b *big.Int) uint {
	return uint(new(big.Int).Mod(b, big.NewInt(64)).Int64())
}

// wrapped takes a number modulo 2^64 into the range of int64.
func wrapped(v *big.Int) int64 {
	rest := new(big.Int).Mod(v, new(big.Int).Lsh(big.NewInt(1), 64))
	return int64(rest.Uint64())
}

// modelBin is the result of an operation, or that it traps.
func modelBin(kind int, a, b int64) (int64, bool) {
	v := operations[kind](big.NewInt(a), big.NewInt(b))
	if v == nil {
		return 0, true
	}
	return wrapped(v), false
}

func expectBin(t *testing.T, kind int, a, b, want int64, wantTrap bool) {
	t.Helper()
	if v, trap, e := irsem.Bin(kind, a, b); v != want || trap != wantTrap || e != api.OK {
		t.Fatalf("Bin(%d, %d, %d) = %d, %v, %d; want %d, %v", kind, a, b, v, trap, e, want, wantTrap)
	}
}

// P10.1: each operation, and where it wraps, or traps.
func TestBin(t *testing.T) {
	for _, c := range []struct {
		kind       int
		a, b, want int64
		trap       bool
	}{
		{api.IbAdd, 2, 3, 5, false}, {api.IbAdd, greatest, 1, least, false}, {api.IbAdd, least, least, 0, false}, {api.IbAdd, least, -1, greatest, false},
		{api.IbSub, 2, 3, -1, false}, {api.IbSub, 0, least, least, false}, {api.IbSub, least, 1, greatest, false}, {api.IbSub, -1, least, greatest, false},
		{api.IbMul, -3, 4, -12, false}, {api.IbMul, least, -1, least, false}, {api.IbMul, greatest, 2, -2, false}, {api.IbMul, 1 << 32, 1 << 32, 0, false}, {api.IbMul, greatest, greatest, 1, false},
		{api.IbDiv, 7, 2, 3, false}, {api.IbDiv, -7, 2, -3, false}, {api.IbDiv, 7, -2, -3, false}, {api.IbDiv, -7, -2, 3, false}, {api.IbDiv, 1, 2, 0, false},
		{api.IbDiv, least, -1, least, false}, {api.IbDiv, least, 1, least, false}, {api.IbDiv, greatest, -1, -greatest, false}, {api.IbDiv, 5, -1, -5, false}, {api.IbDiv, 0, -1, 0, false}, {api.IbDiv, greatest, least, 0, false},
		{api.IbDiv, 1, 0, 0, true}, {api.IbDiv, 0, 0, 0, true}, {api.IbDiv, least, 0, 0, true},
		{api.IbRem, 7, 2, 1, false}, {api.IbRem, -7, 2, -1, false}, {api.IbRem, 7, -2, 1, false}, {api.IbRem, -7, -2, -1, false}, {api.IbRem, 1, 2, 1, false},
		{api.IbRem, least, -1, 0, false}, {api.IbRem, least, 1, 0, false}, {api.IbRem, 5, -1, 0, false}, {api.IbRem, greatest, least, greatest, false}, {api.IbRem, least, greatest, -1, false}, {api.IbRem, least, 10, -8, false},
		{api.IbRem, 1, 0, 0, true}, {api.IbRem, 0, 0, 0, true}, {api.IbRem, least, 0, 0, true},
		{api.IbAnd, 12, 10, 8, false}, {api.IbAnd, -1, least, least, false}, {api.IbOr, 12, 10, 14, false}, {api.IbOr, least, greatest, -1, false}, {api.IbXor, 12, 10, 6, false}, {api.IbXor, -1, greatest, least, false},
		{api.IbShl, 1, 0, 1, false}, {api.IbShl, 1, 63, least, false}, {api.IbShl, 1, 64, 1, false}, {api.IbShl, 1, 65, 2, false}, {api.IbShl, 3, -1, least, false}, {api.IbShl, 3, -64, 3, false}, {api.IbShl, 1, least, 1, false}, {api.IbShl, 1, greatest, least, false}, {api.IbShl, -1, 8, -256, false},
		{api.IbShr, -8, 1, -4, false}, {api.IbShr, 8, 1, 4, false}, {api.IbShr, -1, 63, -1, false}, {api.IbShr, least, 63, -1, false}, {api.IbShr, greatest, 63, 0, false}, {api.IbShr, -8, 64, -8, false}, {api.IbShr, -8, 65, -4, false}, {api.IbShr, -8, -1, -1, false}, {api.IbShr, greatest, -2, 1, false}, {api.IbShr, 9, least, 9, false},
		{api.IbEq, 4, 4, 1, false}, {api.IbEq, 4, 5, 0, false}, {api.IbNe, 4, 4, 0, false}, {api.IbNe, least, greatest, 1, false},
		{api.IbLt, 4, 5, 1, false}, {api.IbLt, 5, 5, 0, false}, {api.IbLt, 5, 4, 0, false}, {api.IbLt, least, greatest, 1, false}, {api.IbLt, greatest, least, 0, false}, {api.IbLt, -1, 0, 1, false},
		{api.IbLe, 4, 5, 1, false}, {api.IbLe, 5, 5, 1, false}, {api.IbLe, 5, 4, 0, false}, {api.IbLe, least, greatest, 1, false}, {api.IbLe, greatest, least, 0, false}, {api.IbLe, 0, -1, 0, false},
	} {
		expectBin(t, c.kind, c.a, c.b, c.want, c.trap)
	}
}

// P10.1: all operations of numbers at the edges, and of others, are those of the model.
func TestBinModel(t *testing.T) {
	edges := []int64{0, 1, -1, 2, -2, 3, 7, -7, 10, 62, 63, 64, 65, -62, -63, -64, -65, 127, 128, 255, 256, 1 << 31, 1 << 32, -1 << 32, 1 << 62, -1 << 62, greatest, greatest - 1, least, least + 1}
	dice := random(1)
	for range 300 {
		edges = append(edges, int64(dice.Uint64())>>dice.IntN(64))
	}
	for kind := api.IbAdd; kind <= api.IbLe; kind++ {
		for _, a := range edges {
			for _, b := range edges[:60] {
				v, trap := modelBin(kind, a, b)
				expectBin(t, kind, a, b, v, trap)
				v, trap = modelBin(kind, b, a)
				expectBin(t, kind, b, a, v, trap)
			}
		}
	}
}

// P10.1: numbers that are no operation.
func TestBinOfNone(t *testing.T) {
	kinds := []int{least, -14, -1, 0, api.IbLe + 1, api.IbLe + 2, 20, 64, 257, 1 << 32, 1<<32 + 1, greatest}
	for _, kind := range kinds {
		for _, b := range []int64{0, 1, -1} {
			if v, trap, e := irsem.Bin(kind, 7, b); v != 0 || trap || e != api.ErrArg {
				t.Errorf("Bin(%d, 7, %d) = %d, %v, %d", kind, b, v, trap, e)
			}
		}
	}
}
