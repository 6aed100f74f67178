package rules

import (
	"testing"

	"cupel/alloc"
	"cupel/api"
	"cupel/choose"
	"cupel/parts"
	"cupel/samples"
	"cupel/target"
)

type spansArgs struct {
	V api.VCode
	F int
	X api.Limit
}

type spansResult struct {
	List []api.VSpan
	E    api.Errno
}

func spansCalls(t *testing.T, look func(c call)) {
	turn := 0
	virtuals(t, func(v api.VCode) {
		for f := -1; f <= len(v.Funcs); f++ {
			n := turn
			turn++
			look(newCall("Spans",
				func() spansArgs { return spansArgs{copyOfVirtual(v), f, allocLimit(n)} },
				func(a spansArgs) (r spansResult) {
					r.List, r.E = alloc.Spans(a.V, a.F, a.X)
					return r
				}))
		}
	})
}

type spilledArgs struct {
	V    api.VCode
	F, K int
	X    api.Limit
}

type spilledResult struct {
	List []int
	E    api.Errno
}

func spilledCalls(t *testing.T, look func(c call)) {
	turn := 0
	virtuals(t, func(v api.VCode) {
		for f := -1; f <= len(v.Funcs); f++ {
			for range 2 {
				n := turn
				turn++
				look(newCall("Spilled",
					func() spilledArgs { return spilledArgs{copyOfVirtual(v), f, n%9 - 1, allocLimit(n)} },
					func(a spilledArgs) (r spilledResult) {
						r.List, r.E = alloc.Spilled(a.V, a.F, a.K, a.X)
						return r
					}))
			}
		}
	})
}

type allocArgs struct {
	V api.VCode
	K int
	X api.Limit
}

type allocResult struct {
	I api.Image
	E api.Errno
}

func allocCalls(t *testing.T, look func(c call)) {
	turn := 0
	virtuals(t, func(v api.VCode) {
		for k := -1; k <= 7; k++ {
			n := turn
			turn++
			look(newCall("Alloc",
				func() allocArgs { return allocArgs{copyOfVirtual(v), k, allocLimit(n)} },
				func(a allocArgs) (r allocResult) {
					r.I, r.E = alloc.Alloc(a.V, a.K, a.X)
					return r
				}))
		}
	})
}

// allocLimit returns one of several limits, some of them with faults of alloc, with a list that is new.
func allocLimit(n int) api.Limit {
	own := []api.Limit{samples.All(api.FtAlloc1), samples.All(api.FtAlloc2), samples.All(api.FtAlloc3), {Most: -7, Faults: []int{api.FtMinus, api.FtAlloc1, api.FtAlloc2, api.FtAlloc3}}, {Faults: []int{2, 1}}}
	if n%2 == 0 {
		return limit(n / 2)
	}
	return own[n/2%len(own)]
}

// P22.1, P22.2, P22.5, R1: Spans, Spilled and Alloc return for virtual code in which anything was changed, and any other arguments; images are valid.
func TestAllocReturns(t *testing.T) {
	dice := samples.NewDice(10)
	seen := map[api.Errno]int{}
	for seed := range uint64(5000) {
		v, e := choose.Make(samples.Calls(seed), samples.All())
		if e != api.OK {
			t.Fatalf("seed %d: error %d", seed, e)
		}
		if seed%2 == 0 {
			v = samples.Virtual(seed, 12)
		}
		for range dice.IntN(3) {
			change(&v, dice, draw(dice))
		}
		f, k, x := dice.IntN(len(v.Funcs)), dice.IntN(7), allocLimit(dice.IntN(14))
		switch dice.IntN(8) {
		case 0:
			f = int(draw(dice))
		case 1:
			k = int(draw(dice))
		case 2:
			x.Faults = append(x.Faults, int(draw(dice)))
		}
		x.Most = int(draw(dice))
		seen[expectReturns(t, v, f, k, x)]++
	}
	if seen[api.OK] < 1000 || seen[api.ErrArg] < 1000 || seen[api.ErrLong] < 10 {
		t.Errorf("errors: %v", seen)
	}
}

// expectReturns wants the errors of the three functions to be those of the arguments, and returns that of Alloc.
func expectReturns(t *testing.T, v api.VCode, f, k int, x api.Limit) api.Errno {
	t.Helper()
	want := func(isRight bool) api.Errno {
		switch e := choose.Check(v); {
		case e != api.OK:
			return e
		case !parts.AreFaults(x.Faults) || !isRight:
			return api.ErrArg
		}
		return api.OK
	}
	isFunction, isCount := f >= 0 && f < len(v.Funcs), k >= 0 && k <= 6
	if list, e := alloc.Spans(v, f, x); e != want(isFunction) || e != api.OK && len(list) > 0 {
		t.Fatalf("%+v: Spans of %d with %v: error %d: %v", v, f, x, e, list)
	}
	if list, e := alloc.Spilled(v, f, k, x); e != want(isFunction && isCount) || e != api.OK && len(list) > 0 {
		t.Fatalf("%+v: Spilled of %d, %d with %v: error %d: %v", v, f, k, x, e, list)
	}
	i, e := alloc.Alloc(v, k, x)
	if e != want(isCount) || e == api.OK && target.Check(i) != api.OK || e != api.OK && !same(&i, &api.Image{}) {
		t.Fatalf("%+v: Alloc with %d, %v: error %d: %+v", v, k, x, e, i)
	}
	return e
}
