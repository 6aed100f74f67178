package pipeline_test

import (
	"math"
	"testing"

	"cupel/api"
	"cupel/pipeline"
	"cupel/samples"
)

// allFaults are the numbers of all faults.
func allFaults() []int {
	var list []int
	for fault := 1; fault <= api.MaxFaults; fault++ {
		list = append(list, fault)
	}
	return list
}

// kinds calls look with modules for all passes: functions with phis and without.
func kinds(t *testing.T, count int, look func(m api.Module)) {
	t.Helper()
	for _, p := range samples.Passes()[4:] {
		look(samples.Read(t, p.Many()))
	}
	samples.Callers(count, look)
	samples.Functions(t, count, 14, look)
	samples.Lowered(count/2, look)
	samples.Programs(count/2, look)
}

// P19.2: what the pass with this number returns for the function and the limit, also if that is an error.
func TestOne(t *testing.T) {
	made, seen := map[int]int{}, map[api.Errno]int{}
	kinds(t, 40, func(m api.Module) {
		for pass, name := range names()[1:] {
			for k := -1; k <= len(m.Funcs); k++ {
				for _, x := range []api.Limit{samples.All(), {}, {Most: 1}, {Most: 2, Faults: allFaults()}, samples.All(allFaults()...)} {
					i := api.Instance{Pass: pass + 1, Func: k}
					got, want := resultOf(pipeline.One(m, i, x)), do(name, m, k, x)
					if !same(got, want) {
						t.Fatalf("%s\n%s of %d, %v: error %d, want %d, %v\n%s", samples.Text(m), name, k, x, got.e, want.e, got.lists, samples.Text(got.m))
					}
					made[i.Pass] += len(got.lists[0])
					seen[got.e]++
				}
			}
		}
	})
	for pass := api.PsInto; pass <= api.PsInline; pass++ {
		if made[pass] < 100 {
			t.Errorf("%s: %d applications", names()[pass], made[pass])
		}
	}
	if seen[api.OK] < 1000 || seen[api.ErrArg] < 1000 || seen[api.ErrDown] < 1000 {
		t.Errorf("errors %v", seen)
	}
}

// P19.2: what each pass does by itself.
func TestEachPass(t *testing.T) {
	const head = "cell c = 5; main f; func f "
	const g = " func g params 0 regs 0 { b0: print 8; return; }"
	for n, c := range []struct{ before, after string }{
		{"params 0 regs 1 { b0: r0 = 1; r0 = r0; print r0; return; }", "params 0 regs 2 { b0: r0 = 1; r1 = r0; print r1; return; }"},
		{"params 0 regs 2 { b0: r0 = 1; jump b1; b1: r1 = phi b0: r0; print r1; return; }", "params 0 regs 2 { b0: r0 = 1; r1 = r0; jump b1; b1: print r1; return; }"},
		{"params 0 regs 9 { b0: r8 = 1; jump b1; b1: print r8; return; }", "params 0 regs 1 { b0: r0 = 1; print r0; return; }"},
		{"params 0 regs 1 { b0: r0 = 1; print r0; return; }", "params 0 regs 1 { b0: r0 = 1; print 1; return; }"},
		{"params 0 regs 2 { b0: r0 = get c0; r1 = get c0; print r1; return; }", "params 0 regs 2 { b0: r0 = get c0; r1 = r0; print r0; return; }"},
		{"params 0 regs 1 { b0: r0 = get c0; return; }", "params 0 regs 1 { b0: return; }"},
		{"params 0 regs 2 { b0: r0 = get c0; r1 = mul r0, 4; print r1; return; }", "params 0 regs 2 { b0: r0 = get c0; r1 = shl r0, 2; print r1; return; }"},
		{"params 0 regs 2 { b0: r0 = get c0; jump b1; b1: r1 = add r0, 1; print r1; jump b1; }", "params 0 regs 2 { b0: r0 = get c0; r1 = add r0, 1; jump b1; b1: print r1; jump b1; }"},
		{"params 0 regs 0 { b0: call g(); return; }", "params 0 regs 0 { b0: jump b1; b1: print 8; jump b2; b2: return; }"},
	} {
		m, pass := samples.Read(t, head+c.before+g), n+1
		made, list, e := pipeline.One(m, api.Instance{Pass: pass}, samples.All())
		if want := head + c.after + g; e != api.OK || len(list) == 0 || samples.Text(made) != samples.Text(samples.Read(t, want)) {
			t.Errorf("%s: error %d, %v\n%s", names()[pass], e, list, samples.Text(made))
		}
		if made, list, e = pipeline.One(m, api.Instance{Pass: pass}, api.Limit{}); e != api.OK || len(list) > 0 || samples.Text(made) != samples.Text(m) {
			t.Errorf("%s with the limit 0: error %d, %v\n%s", names()[pass], e, list, samples.Text(made))
		}
	}
}

// P19.2: the error of the module comes first, then that of the limit, then that of the pass, then that of what the pass returns.
func TestOneErrors(t *testing.T) {
	m := samples.Read(t, two)
	wrong := []int{0, 10, 11, -1, -9, math.MinInt, math.MaxInt}
	for pass := -1; pass <= 11; pass++ {
		for k := -1; k <= 2; k++ {
			i := api.Instance{Pass: pass, Func: k}
			for _, x := range wrongLimits() {
				expectOneError(t, m, i, x, api.ErrArg)
				for want, m := range wrongModules(t) {
					expectOneError(t, m, i, x, want)
				}
			}
			for want, m := range wrongModules(t) {
				expectOneError(t, m, i, samples.All(), want)
			}
		}
	}
	for _, pass := range wrong {
		for _, k := range []int{-1, 0, 1, 2, math.MaxInt} {
			expectOneError(t, m, api.Instance{Pass: pass, Func: k}, samples.All(), api.ErrPass)
		}
	}
	for pass := api.PsInto; pass <= api.PsInline; pass++ {
		for _, k := range []int{-1, 2, math.MinInt, math.MaxInt} {
			expectOneError(t, m, api.Instance{Pass: pass, Func: k}, samples.All(), api.ErrArg)
		}
	}
	for pass := api.PsFold; pass <= api.PsHoist; pass++ {
		expectOneError(t, samples.Read(t, "main f; func f params 0 regs 1 { b0: r0 = 1; r0 = 2; return; }"), api.Instance{Pass: pass}, api.Limit{}, api.ErrDown)
	}
}
