package target_test

import (
	"math"
	"slices"
	"testing"

	"cupel/api"
	"cupel/target"
)

// P20.1: all operations with fields at their bounds and beyond them, and with fields that they have not.
func TestValid(t *testing.T) {
	valid, count := map[int]int{}, 0
	look := func(x api.MInstr) {
		count++
		want := modelValid(x)
		if target.Valid(x) != want {
			t.Fatalf("Valid(%+v) is not %t", x, want)
		}
		if want {
			valid[x.Op]++
		}
	}
	for op := -3; op <= 60; op++ {
		for _, d := range []int{-1, 0, 9, 10} {
			for _, a := range []int{-1, 0, 9, 10} {
				for _, b := range []int{-1, 0, 9, 10} {
					for _, imm := range extremes() {
						look(api.MInstr{Op: op, D: d, A: a, B: b, Imm: imm})
					}
				}
			}
		}
	}
	for n := range 10 {
		look(api.MInstr{Op: 16, D: n, A: 9 - n, B: n})
	}
	if len(valid) != 42 || valid[api.MoHalt] != 1 || valid[api.MoWide] != 2*len(extremes()) {
		t.Errorf("valid of %d: %v", count, valid)
	}
}

// P20.1: there is no operation with another number.
func TestOps(t *testing.T) {
	for _, op := range []int{math.MinInt, math.MinInt + 15, math.MinInt + 16, math.MinInt + 36, -256, -242, -1, 0, 15, 30, 31, 34, 35, 50, 51, 255, 256, 257, 270, 256 + 16, 1 << 32, 1<<32 + 14, math.MaxInt - 1, math.MaxInt} {
		for _, x := range []api.MInstr{{Op: op}, {Op: op, D: 1, A: 2, B: 3}, {Op: op, D: 1, A: 2, Imm: 3}} {
			if code, e := target.Encode([]api.MInstr{x}); target.Valid(x) || e != api.ErrArg || len(code) > 0 {
				t.Errorf("%+v is valid: %v, %d", x, code, e)
			}
		}
	}
}

// P20.1: the fields have no other values, however great.
func TestGreatFields(t *testing.T) {
	for _, n := range []int{math.MinInt, -16, -10, -1, 10, 11, 15, 16, 17, 256, 1 << 32, math.MaxInt} {
		for _, x := range []api.MInstr{
			{Op: api.MoMove, D: n}, {Op: api.MoMove, A: n}, {Op: api.MoMove, B: n}, {Op: api.MoMove, Imm: int64(n)},
			{Op: api.MoCheck, A: n}, {Op: api.MoCheck, B: n}, {Op: api.MoCheck, D: n},
			{Op: api.MoStore, A: n}, {Op: api.MoStore, B: n}, {Op: api.MoStore, D: n},
			{Op: api.MoHalt, D: n}, {Op: api.MoHalt, A: n}, {Op: api.MoHalt, B: n}, {Op: api.MoHalt, Imm: int64(n)},
		} {
			if _, e := target.Encode([]api.MInstr{x}); target.Valid(x) || e != api.ErrArg {
				t.Errorf("%+v is valid: %d", x, e)
			}
		}
	}
}

// P20.1: the words of each operation.
func TestWords(t *testing.T) {
	for _, c := range []struct {
		x    api.MInstr
		want []uint64
	}{
		{api.MInstr{Op: api.MoMove, D: 9, A: 8}, []uint64{0x8901}},
		{api.MInstr{Op: api.MoSet, D: 9, Imm: -1}, []uint64{0xffffffff_00000902}},
		{api.MInstr{Op: api.MoSet, Imm: math.MinInt32}, []uint64{0x80000000_00000002}},
		{api.MInstr{Op: api.MoSet, Imm: math.MaxInt32}, []uint64{0x7fffffff_00000002}},
		{api.MInstr{Op: api.MoWide, D: 3, Imm: 7}, []uint64{0x303, 7}},
		{api.MInstr{Op: api.MoWide, D: 3, Imm: -1}, []uint64{0x303, 0xffffffff_ffffffff}},
		{api.MInstr{Op: api.MoWide, Imm: math.MinInt64}, []uint64{0x003, 0x80000000_00000000}},
		{api.MInstr{Op: api.MoLoad, D: 1, A: 2, Imm: -3}, []uint64{0xfffffffd_00002104}},
		{api.MInstr{Op: api.MoStore, A: 1, B: 2, Imm: 3}, []uint64{0x00000003_00021005}},
		{api.MInstr{Op: api.MoJump, Imm: 20000}, []uint64{0x00004e20_00000006}},
		{api.MInstr{Op: api.MoZero, A: 4, Imm: 1}, []uint64{0x00000001_00004007}},
		{api.MInstr{Op: api.MoCheck, A: 4, B: 5}, []uint64{0x00054008}},
		{api.MInstr{Op: api.MoCheckI, A: 4, Imm: -5}, []uint64{0xfffffffb_00004009}},
		{api.MInstr{Op: api.MoPrint, A: 9}, []uint64{0x900a}},
		{api.MInstr{Op: api.MoCall, Imm: 256}, []uint64{0x00000100_0000000b}},
		{api.MInstr{Op: api.MoReturn}, []uint64{12}},
		{api.MInstr{Op: api.MoTrap}, []uint64{13}},
		{api.MInstr{Op: api.MoHalt}, []uint64{14}},
		{api.MInstr{Op: api.MoBin + api.IbAdd, D: 1, A: 2, B: 3}, []uint64{205072}},
		{api.MInstr{Op: api.MoBin + api.IbLe, D: 9, A: 9, B: 9}, []uint64{0x9991d}},
		{api.MInstr{Op: api.MoBinI + api.IbAdd, D: 1, A: 2, Imm: 3}, []uint64{0x00000003_00002124}},
		{api.MInstr{Op: api.MoBinI + api.IbLe, D: 9, A: 9, Imm: -9}, []uint64{0xfffffff7_00009931}},
	} {
		if code := encode(t, c.x); !slices.Equal(code, c.want) {
			t.Errorf("Encode(%+v) = %x, want %x", c.x, code, c.want)
		}
	}
}

// P20.1: words stand one behind the other; one instruction that is not valid is enough for ErrArg, at any place.
func TestEncode(t *testing.T) {
	r := random(1)
	for n := range 300 {
		l := drawCode(r, n%40)
		if code := encode(t, l...); !slices.Equal(code, wordsOf(l)) {
			t.Fatalf("Encode(%v) = %x", l, code)
		}
		if len(l) > 0 {
			l[r.IntN(len(l))].D = 10
			if code, e := target.Encode(l); e != api.ErrArg || len(code) > 0 {
				t.Fatalf("Encode(%v): %v, error %d", l, code, e)
			}
		}
	}
}

// P20.1: words up to the limit and one more; what is not valid comes first.
func TestLongCode(t *testing.T) {
	halt, wide, wrong := api.MInstr{Op: api.MoHalt}, api.MInstr{Op: api.MoWide, Imm: 5}, api.MInstr{Op: api.MoHalt, B: 1}
	for _, c := range []struct {
		l    []api.MInstr
		want api.Errno
	}{
		{repeated(20000, halt), api.OK},
		{repeated(20001, halt), api.ErrLong},
		{repeated(10000, wide), api.OK},
		{append(repeated(10000, wide), halt), api.ErrLong},
		{append(repeated(9999, wide), halt, halt), api.OK},
		{append(repeated(9999, wide), halt, wide), api.ErrLong},
		{append(repeated(19999, halt), wrong), api.ErrArg},
		{append(repeated(20000, halt), wrong), api.ErrArg},
		{append(repeated(20001, halt), wrong), api.ErrArg},
		{append(repeated(30000, wide), wrong), api.ErrArg},
		{append([]api.MInstr{wrong}, repeated(20000, halt)...), api.ErrArg},
		{nil, api.OK},
	} {
		code, e := target.Encode(c.l)
		if e != c.want || e == api.OK && !slices.Equal(code, wordsOf(c.l)) || e != api.OK && len(code) > 0 {
			t.Errorf("Encode of %d instructions: %d words, error %d, want %d", len(c.l), len(code), e, c.want)
		}
	}
}

func expectDecode(t *testing.T, code []uint64, at int, x api.MInstr, next int, want api.Errno) {
	t.Helper()
	got, n, e := target.Decode(code, at)
	if got != x || n != next || e != want {
		t.Fatalf("Decode(%.20x, %d) = %+v, %d, %d; want %+v, %d, %d", code, at, got, n, e, x, next, want)
	}
}

// P20.2: what is not an index of the code.
func TestDecodeIndex(t *testing.T) {
	code := []uint64{14, 3, 0, 14}
	for _, at := range []int{math.MinInt, -1, 4, 5, math.MaxInt} {
		expectDecode(t, code, at, api.MInstr{}, 0, api.ErrArg)
	}
	for _, at := range []int{-1, 0, 1} {
		expectDecode(t, nil, at, api.MInstr{}, 0, api.ErrArg)
		expectDecode(t, []uint64{}, at, api.MInstr{}, 0, api.ErrArg)
	}
	expectDecode(t, code, 0, api.MInstr{Op: api.MoHalt}, 1, api.OK)
	expectDecode(t, code, 1, api.MInstr{Op: api.MoWide}, 3, api.OK)
	expectDecode(t, code, 2, api.MInstr{}, 0, api.ErrForm)
	expectDecode(t, code, 3, api.MInstr{Op: api.MoHalt}, 4, api.OK)
	expectDecode(t, code[:3:4], 3, api.MInstr{}, 0, api.ErrArg)
}

// P20.2: a second word that is missing, also where the memory of the list goes on.
func TestDecodeSecondWord(t *testing.T) {
	code := []uint64{0x203, 0x203, 0x203}
	expectDecode(t, code, 0, api.MInstr{Op: api.MoWide, D: 2, Imm: 0x203}, 2, api.OK)
	expectDecode(t, code, 1, api.MInstr{Op: api.MoWide, D: 2, Imm: 0x203}, 3, api.OK)
	expectDecode(t, code, 2, api.MInstr{}, 0, api.ErrForm)
	expectDecode(t, code[:1], 0, api.MInstr{}, 0, api.ErrForm)
	expectDecode(t, []uint64{3, 0}, 0, api.MInstr{Op: api.MoWide}, 2, api.OK)
	for bit := 12; bit < 64; bit++ { // nothing but the register is in the first word
		expectDecode(t, []uint64{3 | 1<<bit, 0}, 0, api.MInstr{}, 0, api.ErrForm)
	}
}

// P20.2: no bits in the first 20 but those of valid fields, whatever stands in the highest ones.
func TestDecodeLowBits(t *testing.T) {
	right := 0
	for low := range uint64(1) << 20 {
		for _, high := range []uint64{0, 5, 0xffffffff} {
			code := []uint64{low | high<<32, 9}
			if x, next, e := modelDecode(code, 0); e == api.OK || low%61 == 0 {
				expectDecode(t, code, 0, x, next, e)
				right++
			} else if _, _, e := target.Decode(code, 0); e != api.ErrForm {
				t.Fatalf("Decode(%x): error %d", code, e)
			}
		}
	}
	if right < 30_000 {
		t.Errorf("%d words", right)
	}
}

// P20.2: the 12 bits that are always zero, and numbers in the highest 32.
func TestDecodeHighBits(t *testing.T) {
	for _, r := range byOp {
		for bit := 20; bit < 32; bit++ {
			expectDecode(t, []uint64{uint64(r.op) | 1<<bit, 0}, 0, api.MInstr{}, 0, api.ErrForm)
		}
		for _, v := range extremes() {
			code := []uint64{uint64(r.op) | uint64(v)<<32, uint64(v)}
			x, next, e := modelDecode(code, 0)
			expectDecode(t, code, 0, x, next, e)
		}
	}
}

// P20.2: words in which some bits are others than those of an instruction.
func TestDecodeChanged(t *testing.T) {
	r := random(2)
	seen := map[api.Errno]int{}
	for range 50_000 {
		code := wordsOf(drawCode(r, 1+r.IntN(3)))
		for range r.IntN(3) {
			code[r.IntN(len(code))] ^= 1 << r.IntN(64)
		}
		code = code[:len(code)-r.IntN(2)]
		at := r.IntN(len(code)+1) - r.IntN(9)/8
		x, next, e := modelDecode(code, at)
		expectDecode(t, code, at, x, next, e)
		seen[e]++
	}
	if seen[api.OK] < 5000 || seen[api.ErrArg] < 5000 || seen[api.ErrForm] < 5000 {
		t.Errorf("errors: %v", seen)
	}
}

// P20.5: Decode of Encode is the instruction, and Encode of what Decode reports is the words.
func TestDecodeOfEncode(t *testing.T) {
	r := random(3)
	for range 20_000 {
		x := drawInstr(r)
		code := encode(t, x)
		expectDecode(t, code, 0, x, len(code), api.OK)
	}
	right := 0
	for range 50_000 {
		code := []uint64{r.Uint64() & 0xffffffff_000fffff, r.Uint64()}
		code[0] = code[0]&^255 | uint64(r.IntN(60))
		if r.IntN(2) == 0 {
			code[0] &= 0xf0ffff
		}
		x, next, e := target.Decode(code, 0)
		if e != api.OK {
			continue
		}
		right++
		if back := encode(t, x); !slices.Equal(back, code[:next]) {
			t.Fatalf("Encode(%+v) = %x, not %x", x, back, code[:next])
		}
	}
	if right < 3000 {
		t.Errorf("%d words", right)
	}
}

// P20.5: different instructions have different words.
func TestDifferentWords(t *testing.T) {
	r := random(4)
	seen := map[[2]uint64]api.MInstr{}
	for range 30_000 {
		x := drawInstr(r)
		var words [2]uint64
		copy(words[:], encode(t, x))
		if other, known := seen[words]; known && other != x {
			t.Fatalf("%+v and %+v have the words %x", x, other, words)
		}
		seen[words] = x
	}
}
