package gen_test

import (
	"math"
	"math/big"
	"testing"

	"cupel/gen"
)

// P6.1: the examples of the chapter, and states at which numbers begin again.
func TestNextExamples(t *testing.T) {
	for s, want := range map[uint64]uint64{
		0:                    11400714819323198485,
		11400714819323198485: 4354685564936845354,
		7046029254386353131:  0,
		7046029254386353130:  math.MaxUint64,
		math.MaxUint64:       11400714819323198484,
	} {
		if got := gen.Next(s); got != want {
			t.Errorf("Next(%d): %d, want %d", s, got, want)
		}
	}
}

// P6.1: the example of the chapter; numbers below 1 give 0; z is not negative for any n.
func TestDrawExamples(t *testing.T) {
	s := gen.Next(0) // z is 16294208416658607535
	for n, want := range map[int]int{
		10: 5, 1: 0, 2: 1, 3: 1, 256: 175, 1000: 535, 1 << 32: 2065550767, math.MaxInt: 7070836379803831728,
		0: 0, -1: 0, -10: 0, math.MinInt: 0,
	} {
		if got := gen.Draw(s, n); got != want {
			t.Errorf("Draw(%d, %d): %d, want %d", s, n, got, want)
		}
	}
}

// bits is 2^64, up to which numbers are counted.
var bits = new(big.Int).Lsh(big.NewInt(1), 64)

// belonging calculates z in numbers of any size, then its rest.
func belonging(s uint64, n int) int {
	z := new(big.Int).SetUint64(s)
	for _, c := range []struct {
		shift  uint
		factor uint64
	}{{30, 13787848793156543929}, {27, 10723151780598845931}, {31, 1}} {
		z.Xor(z, new(big.Int).Rsh(z, c.shift))
		z.Mul(z, new(big.Int).SetUint64(c.factor))
		z.Mod(z, bits)
	}
	return int(z.Mod(z, big.NewInt(int64(n))).Int64())
}

// P6.1: the numbers of many states are those of the model.
func TestNumbersOfModel(t *testing.T) {
	s, next := uint64(0), new(big.Int)
	for i := range 20000 {
		n := []int{2, 3, 4, 9, 10, 13, 100, 256, 1 << 40, math.MaxInt}[i%10]
		if got, want := gen.Draw(s, n), belonging(s, n); got != want {
			t.Fatalf("Draw(%d, %d): %d, want %d", s, n, got, want)
		}
		next.SetUint64(s)
		next.Add(next, new(big.Int).SetUint64(11400714819323198485)).Mod(next, bits)
		if got := gen.Next(s); got != next.Uint64() {
			t.Fatalf("Next(%d): %d, want %d", s, got, next)
		}
		if s = gen.Next(s); i%3 == 0 {
			s = ^s >> (i % 60)
		}
	}
}
