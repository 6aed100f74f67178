package ranges_test

import (
	"math/big"
	"math/rand/v2"
	"slices"
	"testing"

	"cupel/api"
	"cupel/ranges"
)

// P4.1: all values of a kind, and of no kind.
func TestFull(t *testing.T) {
	for _, kind := range kinds {
		if r, e := ranges.Full(kind); r != modelFull(kind) || e != api.OK {
			t.Errorf("Full(%d): %v, %d", kind, r, e)
		}
	}
	for _, kind := range append(slices.Clone(wrongNumbers), 4, 5, 10) {
		if r, e := ranges.Full(kind); r != nothing || e != api.ErrArg {
			t.Errorf("Full(%d): %v, %d", kind, r, e)
		}
	}
}

// P4.1: what is a range of a kind, and what is none.
func TestCheck(t *testing.T) {
	var all []api.Range
	edges := []int64{least, least + 1, -256, -2, -1, 0, 1, 2, 3, 254, 255, 256, 257, 1 << 32, most - 1, most}
	for _, low := range edges {
		for _, high := range edges {
			all = append(all, of(low, high))
		}
	}
	for _, kind := range append(slices.Clone(wrongNumbers), kinds...) {
		for _, r := range all {
			want := api.ErrArg
			if isRange(kind, r) {
				want = api.OK
			}
			if e := ranges.Check(kind, r); e != want {
				t.Errorf("Check(%d, %v): %d, want %d", kind, r, e, want)
			}
		}
	}
}

// P4.2: what two ranges have in common, and the least one around both, one by one.
func TestJoinAndMeet(t *testing.T) {
	for _, c := range []struct {
		a, b, join, meet api.Range
		some             bool
	}{
		{of(1, 2), of(-5, 0), of(-5, 2), nothing, false},
		{of(1, 5), of(5, 9), of(1, 9), of(5, 5), true},
		{of(1, 4), of(5, 9), of(1, 9), nothing, false},
		{of(1, 9), of(3, 4), of(1, 9), of(3, 4), true},
		{of(1, 6), of(3, 9), of(1, 9), of(3, 6), true},
		{one(7), one(7), one(7), one(7), true},
		{one(0), one(0), one(0), one(0), true},
		{one(7), one(8), of(7, 8), nothing, false},
		{of(least, most), of(-3, 3), of(least, most), of(-3, 3), true},
		{of(least, -1), of(0, most), of(least, most), nothing, false},
		{of(least, 0), of(0, most), of(least, most), of(0, 0), true},
		{one(least), one(most), of(least, most), nothing, false},
	} {
		for _, pair := range [][2]api.Range{{c.a, c.b}, {c.b, c.a}} {
			if r, e := ranges.Join(pair[0], pair[1]); r != c.join || e != api.OK {
				t.Errorf("Join%v: %v, %d, want %v", pair, r, e, c.join)
			}
			if r, some, e := ranges.Meet(pair[0], pair[1]); r != c.meet || some != c.some || e != api.OK {
				t.Errorf("Meet%v: %v, %v, %d, want %v, %v", pair, r, some, e, c.meet, c.some)
			}
		}
	}
}

// P4.2: the values themselves: in Meet are those of both, in Join all of them, and its ends are ends of one.
func TestJoinAndMeetValues(t *testing.T) {
	for _, a := range smallRanges() {
		for _, b := range smallRanges() {
			join, e := ranges.Join(a, b)
			meet, some, f := ranges.Meet(a, b)
			if e != api.OK || f != api.OK {
				t.Fatalf("%v, %v: errors %d, %d", a, b, e, f)
			}
			shared := false
			for v := int64(-4); v < 5; v++ {
				both := contains(a, v) && contains(b, v)
				shared = shared || both
				if (contains(a, v) || contains(b, v)) && !contains(join, v) || both != (some && contains(meet, v)) {
					t.Errorf("%v, %v: Join %v, Meet %v, %v: %d", a, b, join, meet, some, v)
				}
			}
			if some != shared || join.Low != a.Low && join.Low != b.Low || join.High != a.High && join.High != b.High {
				t.Errorf("%v, %v: Join %v, Meet %v, %v", a, b, join, meet, some)
			}
		}
	}
}

// smallRanges are all ranges from -3 to 3.
func smallRanges() []api.Range {
	var list []api.Range
	for low := int64(-3); low < 4; low++ {
		for high := low; high < 4; high++ {
			list = append(list, of(low, high))
		}
	}
	return list
}

// P4.2, P1: an argument that is no range, on either side.
func TestJoinAndMeetArguments(t *testing.T) {
	for _, wrong := range wrongRanges(api.TyInt) {
		for _, pair := range [][2]api.Range{{wrong, of(0, 1)}, {of(0, 1), wrong}, {wrong, wrong}} {
			if r, e := ranges.Join(pair[0], pair[1]); r != nothing || e != api.ErrArg {
				t.Errorf("Join%v: %v, %d", pair, r, e)
			}
			if r, some, e := ranges.Meet(pair[0], pair[1]); r != nothing || some || e != api.ErrArg {
				t.Errorf("Meet%v: %v, %v, %d", pair, r, some, e)
			}
		}
	}
}

// P4.3: ranges of int that are brought into small, one by one.
func TestToSmall(t *testing.T) {
	for _, c := range []struct{ a, want api.Range }{
		{of(0, 255), of(0, 255)},
		{of(3, 200), of(3, 200)},
		{one(256), one(0)},
		{of(256, 511), of(0, 255)},
		{of(257, 300), of(1, 44)},
		{of(255, 256), of(0, 255)},
		{of(511, 512), of(0, 255)},
		{of(0, 256), of(0, 255)},
		{of(5, 261), of(0, 255)},
		{one(-1), one(255)},
		{of(-256, -1), of(0, 255)},
		{of(-10, -3), of(246, 253)},
		{of(-1, 0), of(0, 255)},
		{of(-257, -256), of(0, 255)},
		{of(-300, -290), of(212, 222)},
		{one(least), one(0)},
		{of(least, least+9), of(0, 9)},
		{of(most-9, most), of(246, 255)},
		{of(least, most), of(0, 255)},
		{of(1<<32+1, 1<<32+2), of(1, 2)},
	} {
		if r, e := ranges.ToSmall(c.a); r != c.want || e != api.OK {
			t.Errorf("ToSmall(%v): %v, %d, want %v", c.a, r, e, c.want)
		}
	}
	for _, wrong := range wrongRanges(api.TyInt) {
		if r, e := ranges.ToSmall(wrong); r != nothing || e != api.ErrArg {
			t.Errorf("ToSmall(%v): %v, %d", wrong, r, e)
		}
	}
}

// P4.3: ToSmall is what the model makes of a range.
func TestToSmallModel(t *testing.T) {
	dice := rand.New(rand.NewPCG(4, 1))
	for range 20000 {
		a := someRange(dice, api.TyInt)
		if dice.IntN(2) == 0 {
			a.Low = dice.Int64N(2000) - 1000
			a.High = a.Low + dice.Int64N(300)
		}
		want := around([]*big.Int{big64(a.Low), big64(a.High)}).into(api.TySmall)
		if r, e := ranges.ToSmall(a); r != want || e != api.OK {
			t.Errorf("ToSmall(%v): %v, %d, want %v", a, r, e, want)
		}
	}
}
