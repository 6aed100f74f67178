package choose_test

import (
	"testing"

	"cupel/api"
	"cupel/choose"
	"cupel/ir"
	"cupel/parts"
	"cupel/samples"
)

// expectModel wants of Make what the model says.
func expectModel(t *testing.T, m api.Module, faults []int) api.VCode {
	t.Helper()
	text, most := modelMake(m, faults)
	if most > api.MaxVRegs {
		expectError(t, m, samples.All(faults...), api.ErrLong)
		return api.VCode{}
	}
	v := made(t, m, faults...)
	if !sameCode(v, samples.ReadVirtual(t, text)) {
		t.Fatalf("%s\nMake with the faults %v:\n%s\nwant\n%s", samples.Text(m), faults, samples.VirtualText(v), text)
	}
	return v
}

// expectError wants an error of Make, and nothing besides.
func expectError(t *testing.T, m api.Module, x api.Limit, want api.Errno) {
	t.Helper()
	if v, e := choose.Make(m, x); e != want || !sameCode(v, api.VCode{}) {
		t.Errorf("%.2000s\nMake with %v: error %d, want %d\n%.2000s", samples.Text(m), x, e, want, samples.VirtualText(v))
	}
}

// P21.1, P21.5: modules of all kinds, with each list of the layer's faults.
func TestMakeModel(t *testing.T) {
	t.Parallel()
	ops, changed, all := map[int]int{}, map[int]int{}, 0
	samples.Plain(t, 200, func(m api.Module) {
		plain := expectModel(t, m, nil)
		for i, faults := range faultLists() {
			if v := expectModel(t, m, faults); !sameCode(v, plain) {
				changed[i]++
			}
		}
		all++
		for _, f := range plain.Funcs {
			for _, list := range f.Blocks {
				for _, x := range list {
					ops[x.Op]++
				}
			}
		}
	})
	for _, o := range samples.VirtualOps() {
		if ops[o.Op] < 20 {
			t.Errorf("%s: %d times", o.Word, ops[o.Op])
		}
	}
	for i := range faultLists() {
		if i == 0 && changed[i] > 0 || i > 0 && changed[i] < 40 {
			t.Errorf("the list %d of faults changed %d of %d modules", i, changed[i], all)
		}
	}
}

// P21.1: nothing but the faults of this layer matters, neither others nor Most.
func TestMakeLimits(t *testing.T) {
	var others []int
	for fault := api.FtUndefined; fault <= api.FtAlloc3; fault++ {
		if fault < api.FtChoose1 || fault > api.FtChoose3 {
			others = append(others, fault)
		}
	}
	samples.Plain(t, 40, func(m api.Module) {
		plain := made(t, m)
		for _, x := range []api.Limit{{}, {Most: 1}, {Most: -2}, {Most: least}, {Most: greatest}, {Most: 5, Faults: others}, {Faults: []int{}}} {
			if v, e := choose.Make(m, x); e != api.OK || !sameCode(v, plain) {
				t.Fatalf("%s\nMake with %v: error %d\n%s", samples.Text(m), x, e, samples.VirtualText(v))
			}
		}
		for _, fault := range own() {
			faults := []int{fault}
			if fault == api.FtChoose2 {
				faults = []int{api.FtUndefined, fault, api.FtAlloc3}
			}
			if v, e := choose.Make(m, api.Limit{Most: -5, Faults: faults}); e != api.OK || !sameCode(v, made(t, m, fault)) {
				t.Fatalf("%s\nMake with %v: error %d\n%s", samples.Text(m), faults, e, samples.VirtualText(v))
			}
		}
	})
}

// P21.1: names do not matter, and functions that are not called are made as well.
func TestMakeNames(t *testing.T) {
	samples.Callers(40, func(m api.Module) {
		plain, other := made(t, m), parts.Copy(m)
		for i := range other.Funcs {
			other.Funcs[i].Name += "x"
		}
		for i := range other.Cells {
			other.Cells[i].Name += "x"
		}
		for i := range other.Arrays {
			other.Arrays[i].Name += "x"
		}
		if ir.Same(m, other) || !sameCode(made(t, other), plain) || len(plain.Funcs) != len(m.Funcs) {
			t.Fatalf("%s\nis\n%s", samples.Text(other), samples.VirtualText(made(t, other)))
		}
	})
}
