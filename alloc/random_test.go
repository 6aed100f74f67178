package alloc_test

import (
	"slices"
	"testing"

	"cupel/api"
	"cupel/samples"
)

// codes calls look with virtual code: drawn code with few and more registers, and that of modules of all kinds.
func codes(t *testing.T, count int, look func(v api.VCode)) {
	t.Helper()
	for seed := range uint64(5 * count) {
		look(samples.Virtual(seed, []int{3, 6, 10, 16}[seed%4]))
	}
	samples.Plain(t, count, func(m api.Module) { look(made(t, m)) })
}

// expectModel wants of the three functions what the model says, and returns the image.
func expectModel(t *testing.T, v api.VCode, k int, faults []int) api.Image {
	t.Helper()
	var list []*model
	for f := range v.Funcs {
		m := newModel(v.Funcs[f], k, faults)
		list = append(list, m)
		if got := spansOf(t, v, f, faults...); !slices.Equal(got, m.spans) {
			t.Fatalf("%s\nSpans of %d with %v: %s, want %s", samples.VirtualText(v), f, faults, showSpans(got), showSpans(m.spans))
		}
		if got := spilledOf(t, v, f, k, faults...); !slices.Equal(got, m.spilled()) {
			t.Fatalf("%s\nSpilled of %d, %d with %v: %s, want %s", samples.VirtualText(v), f, k, faults, showRegisters(got), showRegisters(m.spilled()))
		}
	}
	i, want := imageOf(t, v, k, faults...), modelImage(t, modelText(v, list))
	if !sameImage(i, want) {
		t.Fatalf("%s\nAlloc with %d, %v:\n%s\nwant\n%s", samples.VirtualText(v), k, faults, textOf(i), textOf(want))
	}
	return i
}

// P22.1, P22.2: code of all kinds, with each list of the layer's faults, and each number of registers.
func TestModel(t *testing.T) {
	t.Parallel()
	changed, all, turn := map[int]int{}, 0, 0
	codes(t, 120, func(v api.VCode) {
		k := turn % (most + 1)
		turn++
		plain := expectModel(t, v, k, nil)
		all++
		for n, faults := range faultLists() {
			if i := expectModel(t, v, k, faults); !sameImage(i, plain) {
				changed[n]++
			}
		}
	})
	for n := range faultLists() {
		if n == 0 && changed[n] > 0 || n > 0 && changed[n] < 40 {
			t.Errorf("the list %d of faults changed %d of %d images", n, changed[n], all)
		}
	}
}

// P22.1, P22.2: each number of registers makes a difference.
func TestModelRegisters(t *testing.T) {
	t.Parallel()
	changed := map[int]int{}
	codes(t, 60, func(v api.VCode) {
		last := expectModel(t, v, 0, nil)
		for k := 1; k <= most; k++ {
			i := expectModel(t, v, k, nil)
			if !sameImage(i, last) {
				changed[k]++
			}
			last = i
		}
	})
	for k := 1; k <= most; k++ {
		if changed[k] < 20 {
			t.Errorf("%d registers: %d images changed", k, changed[k])
		}
	}
}
