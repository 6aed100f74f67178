package target_test

import (
	"math"
	"testing"

	"cupel/api"
	"cupel/target"
)

func expectCheck(t *testing.T, i api.Image, want api.Errno) {
	t.Helper()
	if e := target.Check(i); e != want {
		t.Errorf("Check of %d words, %d of data, entry %d: error %d, want %d", len(i.Code), len(i.Data), i.Entry, e, want)
	}
	text, e := target.Print(i)
	if e != want || e != api.OK && text != "" {
		t.Errorf("Print: %.50q, error %d, want %d", text, e, want)
	}
}

// P20.3, P20.4: words and data up to their limits, and one more.
func TestLongImages(t *testing.T) {
	for _, c := range []struct {
		code, data int
		want       api.Errno
	}{
		{0, 0, api.OK}, {20000, 0, api.OK}, {20001, 0, api.ErrLong}, {0, 20000, api.OK}, {0, 20001, api.ErrLong}, {20000, 20000, api.OK}, {20001, 20001, api.ErrLong}, {20000, 20001, api.ErrLong}, {20001, 20000, api.ErrLong},
	} {
		expectCheck(t, api.Image{Code: repeated(c.code, uint64(14)), Data: repeated(c.data, int64(-1))}, c.want)
	}
}

// P20.3, P20.4: the entry is from 0 to the number of words, whether an instruction begins there or not.
func TestEntry(t *testing.T) {
	for entry, want := range map[int]api.Errno{math.MinInt: api.ErrArg, -1: api.ErrArg, 0: api.OK, 1: api.OK, 2: api.OK, 3: api.OK, 4: api.ErrArg, 20000: api.ErrArg, math.MaxInt: api.ErrArg} {
		expectCheck(t, api.Image{Code: []uint64{3, 0, 14}, Entry: entry}, want)
	}
	expectCheck(t, api.Image{}, api.OK)
	expectCheck(t, api.Image{Entry: 1}, api.ErrArg)
	expectCheck(t, api.Image{Data: []int64{1, 2}, Entry: 1}, api.ErrArg)
	expectCheck(t, api.Image{Code: repeated(20000, uint64(14)), Entry: 20000}, api.OK)
	expectCheck(t, api.Image{Code: repeated(20000, uint64(14)), Entry: 20001}, api.ErrArg)
}

// P20.3, P20.4: all words are looked at, from the first one on, those of an instruction together.
func TestWrongWords(t *testing.T) {
	for _, c := range []struct {
		code []uint64
		want api.Errno
	}{
		{[]uint64{14, 14}, api.OK},
		{[]uint64{0}, api.ErrForm},
		{[]uint64{14, 0}, api.ErrForm},
		{[]uint64{14, 0, 14}, api.ErrForm},
		{[]uint64{14, 15}, api.ErrForm},
		{[]uint64{3, 0}, api.OK},
		{[]uint64{3, 3, 3, 3}, api.OK},
		{[]uint64{3}, api.ErrForm},
		{[]uint64{3, 3, 3}, api.ErrForm},
		{[]uint64{3, 14, 0}, api.ErrForm},
		{[]uint64{3, 0, 14}, api.OK},
		{[]uint64{2, 1 << 40}, api.ErrForm},
		{[]uint64{6 | 20000<<32}, api.OK},
		{[]uint64{6 | 20001<<32}, api.ErrForm},
	} {
		expectCheck(t, api.Image{Code: c.code}, c.want)
	}
	long := repeated(20000, uint64(14))
	long[19999] = 3
	expectCheck(t, api.Image{Code: long}, api.ErrForm)
}

// P20.3, P20.4, R2: the errors in their order.
func TestCheckOrder(t *testing.T) {
	wrong, long := repeated(20001, uint64(0)), repeated(20001, int64(0))
	expectCheck(t, api.Image{Code: wrong, Entry: -1}, api.ErrLong)
	expectCheck(t, api.Image{Code: wrong, Entry: 1}, api.ErrLong)
	expectCheck(t, api.Image{Code: wrong[:1], Data: long, Entry: 2}, api.ErrLong)
	expectCheck(t, api.Image{Code: wrong[:1], Data: long[:1], Entry: 2}, api.ErrArg)
	expectCheck(t, api.Image{Code: wrong[:1], Data: long[:1], Entry: -1}, api.ErrArg)
	expectCheck(t, api.Image{Code: wrong[:1], Data: long[:1], Entry: 1}, api.ErrForm)
}

// P20.3: images of made instructions, of which some words are changed.
func TestCheckChanged(t *testing.T) {
	r := random(5)
	seen := map[api.Errno]int{}
	for range 20_000 {
		i := api.Image{Code: wordsOf(drawCode(r, r.IntN(6)))}
		i.Entry = r.IntN(len(i.Code)+2) - r.IntN(2)
		if len(i.Code) > 0 && r.IntN(2) == 0 {
			i.Code[r.IntN(len(i.Code))] ^= 1 << r.IntN(64)
		}
		i.Code = i.Code[:len(i.Code)-min(len(i.Code), r.IntN(2))]
		want := modelCheck(i)
		if e := target.Check(i); e != want {
			t.Fatalf("Check(%x, entry %d): error %d, want %d", i.Code, i.Entry, e, want)
		}
		seen[want]++
	}
	if seen[api.OK] < 3000 || seen[api.ErrArg] < 1000 || seen[api.ErrForm] < 3000 {
		t.Errorf("errors: %v", seen)
	}
}
