package samples_test

import (
	"slices"
	"testing"

	"cupel/api"
	"cupel/parts"
	"cupel/samples"
)

// Each pass of the layers from 13 on is there, by its number, with the faults that change what it does.
func TestPasses(t *testing.T) {
	fault := api.FtEqualLess
	for i, p := range samples.Passes() {
		if want := api.PsFold + i; p.Number != want || p.Name == "" {
			t.Errorf("%s has the number %d, want %d", p.Name, p.Number, want)
		}
		for _, own := range p.Faults {
			if own != fault {
				t.Errorf("%s: the fault %d, want %d", p.Name, own, fault)
			}
			fault++
		}
		for _, x := range p.Limits() {
			if !parts.IsLimit(x) {
				t.Errorf("%s: %v", p.Name, x)
			}
		}
	}
	if n := len(samples.Passes()); n != 6 || fault != api.FtLower1 {
		t.Errorf("%d passes, up to the fault %d", n, fault)
	}
}

// The text of a pass has a function 0 that the pass is not for, and others, in which there is something to do.
func TestMany(t *testing.T) {
	for _, p := range samples.Passes() {
		m, count := samples.Read(t, p.Many()), 0
		p.ExpectError(t, m, 0, samples.All(), api.ErrDown)
		for k := 1; k < len(m.Funcs); k++ {
			_, list := p.Made(t, m, k, samples.All())
			count += len(list)
		}
		if count < 1 {
			t.Errorf("%s: nothing to do", p.Name)
		}
	}
}

// What is made for a pass is what it is for.
func TestMadeForPasses(t *testing.T) {
	for _, p := range samples.Passes() {
		sizes, all, programs := map[int]bool{}, 0, 0
		p.FunctionsFor(t, 30, 10, func(m api.Module) {
			if e := p.CheckForm(m, 0); e != api.OK {
				t.Fatalf("%s: error %d\n%s", p.Name, e, samples.Text(m))
			}
			sizes[len(m.Funcs[0].Blocks)] = true
		})
		p.ProgramsFor(20, func(m api.Module) {
			programs++
			for k := range m.Funcs {
				if e := p.CheckForm(m, k); e != api.OK {
					t.Fatalf("%s: error %d of %d\n%s", p.Name, e, k, samples.Text(m))
				}
			}
		})
		p.Examples(t, func(m api.Module) {
			if all++; all == 1 && samples.Text(m) != samples.Text(samples.Read(t, p.Many())) {
				t.Errorf("%s: the first example is\n%s", p.Name, samples.Text(m))
			}
		})
		if len(sizes) < 6 || programs < 15 || all < 65 {
			t.Errorf("%s: %d sizes, %d programs, %d examples", p.Name, len(sizes), programs, all)
		}
	}
	plain := slices.IndexFunc(samples.Passes(), samples.Pass.IsPlain)
	if plain != len(samples.Passes())-1 {
		t.Errorf("%d", plain)
	}
}
