package target_test

import (
	"math/rand/v2"
	"slices"
	"testing"

	"cupel/api"
	"cupel/target"
)

// random draws numbers, always the same ones.
func random(seed uint64) *rand.Rand { return rand.New(rand.NewPCG(seed, 20)) }

// drawInstr draws a valid instruction.
func drawInstr(r *rand.Rand) api.MInstr {
	for {
		row := byOp[1+r.IntN(49)]
		x := api.MInstr{Op: row.op}
		for _, t := range row.tokens {
			switch t {
			case "D", "A", "B":
				set(&x, t, int64(r.IntN(10)))
			case "S", "W", "J":
				all := extremes()
				set(&x, t, []int64{all[r.IntN(len(all))], int64(r.Uint64()), int64(r.Uint64()) >> 32, int64(r.IntN(20001))}[r.IntN(4)])
			}
		}
		if modelValid(x) {
			return x
		}
	}
}

// drawCode draws valid instructions.
func drawCode(r *rand.Rand, count int) []api.MInstr {
	var l []api.MInstr
	for range count {
		l = append(l, drawInstr(r))
	}
	return l
}

// wordsOf returns the words that the model says.
func wordsOf(l []api.MInstr) []uint64 {
	var code []uint64
	for _, x := range l {
		code = append(code, modelWords(x)...)
	}
	return code
}

func sameImage(a, b api.Image) bool {
	return slices.Equal(a.Code, b.Code) && slices.Equal(a.Data, b.Data) && a.Entry == b.Entry
}

func encode(t *testing.T, l ...api.MInstr) []uint64 {
	t.Helper()
	code, e := target.Encode(l)
	if e != api.OK {
		t.Fatalf("Encode(%v): error %d", l, e)
	}
	return code
}

func read(t *testing.T, text string) api.Image {
	t.Helper()
	i, at, e := target.Parse(text)
	if at != 0 || e != api.OK {
		t.Fatalf("Parse(%.300q): error %d at %d", text, e, at)
	}
	return i
}

// repeated returns a list of n equal values.
func repeated[T any](n int, v T) []T { return slices.Repeat([]T{v}, n) }
