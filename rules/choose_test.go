package rules

import (
	"slices"
	"testing"

	"cupel/api"
	"cupel/choose"
	"cupel/ir"
	"cupel/parts"
	"cupel/samples"
)

type makeArgs struct {
	M api.Module
	X api.Limit
}

type makeResult struct {
	V api.VCode
	E api.Errno
}

func makeCalls(t *testing.T, look func(c call)) {
	turn := 0
	examples(t, func(m api.Module) {
		for range 7 {
			n := turn
			turn++
			look(newCall("Make",
				func() makeArgs { return makeArgs{parts.Copy(m), limit(n)} },
				func(a makeArgs) (r makeResult) {
					r.V, r.E = choose.Make(a.M, a.X)
					return r
				}))
		}
	})
}

// virtuals calls look with virtual code, of which most is valid.
func virtuals(t *testing.T, look func(v api.VCode)) {
	t.Helper()
	turn := 0
	examples(t, func(m api.Module) {
		v, e := choose.Make(m, samples.All())
		if e != api.OK {
			return
		}
		look(v)
		turn++
		wrong := copyOfVirtual(v)
		f := &wrong.Funcs[turn%len(wrong.Funcs)]
		switch turn % 4 {
		case 0:
			f.Blocks[0] = nil
		case 1:
			f.Regs = 0
		case 2:
			f.Blocks[0][0].D = 4001
		case 3:
			f.Locals = append(f.Locals, 17)
		}
		look(wrong)
	})
	look(api.VCode{})
	look(api.VCode{Funcs: make([]api.VFunc, 21)})
	look(samples.ReadVirtual(t, "words 0; data; main 0; func args 0 regs 1 locals { b0: print r0; return; }"))
}

func copyOfVirtual(v api.VCode) api.VCode {
	v.Data, v.Funcs = slices.Clone(v.Data), slices.Clone(v.Funcs)
	for i := range v.Funcs {
		f := &v.Funcs[i]
		f.Locals, f.Blocks = slices.Clone(f.Locals), slices.Clone(f.Blocks)
		for b := range f.Blocks {
			f.Blocks[b] = slices.Clone(f.Blocks[b])
		}
	}
	return v
}

type virtualArgs struct{ V api.VCode }

func checkVirtualCalls(t *testing.T, look func(c call)) {
	virtuals(t, func(v api.VCode) {
		look(newCall("Check",
			func() virtualArgs { return virtualArgs{copyOfVirtual(v)} },
			func(a virtualArgs) checkResult { return checkResult{choose.Check(a.V)} }))
	})
}

type runVirtualArgs struct {
	V     api.VCode
	Steps int
}

type runVirtualResult struct {
	B api.Behaviour
	E api.Errno
}

func runVirtualCalls(t *testing.T, look func(c call)) {
	virtuals(t, func(v api.VCode) {
		for _, steps := range []int{-1, 0, 40, 1000, api.MaxMSteps + 1} {
			look(newCall("Run",
				func() runVirtualArgs { return runVirtualArgs{copyOfVirtual(v), steps} },
				func(a runVirtualArgs) (r runVirtualResult) {
					r.B, r.E = choose.Run(a.V, a.Steps)
					return r
				}))
		}
	})
}

// P21.1, P21.5, R1: Make returns for modules in which anything was changed, and what it makes is valid.
func TestMakeReturns(t *testing.T) {
	dice := samples.NewDice(8)
	seen := map[api.Errno]int{}
	for seed := range uint64(4000) {
		m, x := samples.Calls(seed), limit(dice.IntN(6))
		if seed%8 == 0 {
			m = samples.Function(t, seed, 1+dice.IntN(8))
		}
		if dice.IntN(4) > 0 {
			change(&m, dice, draw(dice))
		}
		if dice.IntN(4) == 0 {
			x.Faults = append(x.Faults, int(draw(dice)))
		}
		x.Most = int(draw(dice))
		want := ir.Check(m)
		switch {
		case want != api.OK:
		case !parts.AreFaults(x.Faults):
			want = api.ErrArg
		case slices.ContainsFunc(m.Funcs, parts.HasPhi):
			want = api.ErrDown
		}
		v, e := choose.Make(m, x)
		if e != want || e == api.OK && choose.Check(v) != api.OK || e != api.OK && !same(&v, &api.VCode{}) {
			t.Fatalf("%+v, %v: error %d, want %d: %+v", m, x, e, want, v)
		}
		seen[e]++
	}
	if seen[api.OK] < 500 || seen[api.ErrArg] < 1000 || seen[api.ErrDown] < 50 || seen[api.ErrLong] < 1 {
		t.Errorf("errors: %v", seen)
	}
}

// P21.2, P21.3, R1: Check and Run return for virtual code in which anything was changed, and Run reports what Check does.
func TestVirtualReturns(t *testing.T) {
	dice := samples.NewDice(9)
	seen := map[api.Errno]int{}
	for seed := range uint64(4000) {
		v, e := choose.Make(samples.Calls(seed), samples.All())
		if e != api.OK {
			t.Fatalf("seed %d: error %d", seed, e)
		}
		for range 1 + dice.IntN(2) {
			change(&v, dice, draw(dice))
		}
		e = choose.Check(v)
		if b, f := choose.Run(v, 300); f != e || e != api.OK && !same(&b, &api.Behaviour{}) {
			t.Fatalf("%+v: error %d, and %d of Run: %+v", v, e, f, b)
		}
		seen[e]++
	}
	if seen[api.OK] < 500 || seen[api.ErrArg] < 1000 || seen[api.ErrLong] < 10 {
		t.Errorf("errors: %v", seen)
	}
}
