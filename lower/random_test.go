package lower_test

import (
	"slices"
	"testing"

	"cupel/api"
	"cupel/gen"
	"cupel/ir"
	"cupel/lower"
)

// P9.1, P9.2: modules of many programs, with faults and without, are those of the model, and valid.
func TestModel(t *testing.T) {
	dice := random(1)
	long := 0
	programs(t, 1200, func(p api.Program) {
		var faults []int
		for fault := 1; fault <= api.MaxFaults; fault++ {
			if dice.IntN(4) == 0 {
				faults = append(faults, fault)
			}
		}
		for _, faults := range [][]int{nil, faults} {
			want, isLong := modelText(p, faults...)
			m, e := lower.Lower(p, with(faults...))
			if isLong {
				long++
				if e != api.ErrLong || !ir.Same(m, api.Module{}) {
					t.Fatalf("%s\nerror %d, want %d", text(p), e, api.ErrLong)
				}
				continue
			}
			if e != api.OK || ir.Check(m) != api.OK {
				t.Fatalf("%s\nfaults %v: error %d; Check: %d", text(p), faults, e, ir.Check(m))
			}
			if got, _ := ir.Print(m); got != want {
				t.Fatalf("%s\nfaults %v\nis\n%s\nwant\n%s", text(p), faults, got, want)
			}
		}
	})
	if long < 10 || long > 600 {
		t.Errorf("%d modules are too long", long)
	}
}

// P9.1, P9.2: so are those of programs that are generated.
func TestGenerated(t *testing.T) {
	good := 0
	for seed := range uint64(150) {
		p, e := gen.Generate(api.Plan{Seed: seed, Funcs: int(seed % 5), Stmts: 5 + int(seed%30), Depth: int(seed % 4)})
		if e != api.OK {
			continue
		}
		want, isLong := modelText(p)
		m, e := lower.Lower(p, with())
		if isLong != (e == api.ErrLong) {
			t.Fatalf("%s\nerror %d", text(p), e)
		}
		if isLong {
			continue
		}
		good++
		if got, _ := ir.Print(m); got != want || ir.Check(m) != api.OK {
			t.Fatalf("%s\nis\n%s\nwant\n%s", text(p), got, want)
		}
	}
	if good < 100 {
		t.Errorf("%d programs", good)
	}
}

// P9.1: a module contains nothing but what its text says: fields that are not used are zero.
func TestRead(t *testing.T) {
	programs(t, 300, func(p api.Program) {
		m, e := lower.Lower(p, with())
		if e != api.OK {
			return
		}
		s, _ := ir.Print(m)
		again, _, e := ir.Parse(s)
		if e != api.ErrLong && !ir.Same(m, again) {
			t.Fatalf("%s\nis\n%+v\nwhose text is that of\n%+v", text(p), m, again)
		}
	})
}

// ends counts how often something was seen, and complains of what was seen rarely.
type ends map[string]int

func (list ends) expect(t *testing.T, least int, names ...string) {
	t.Helper()
	for _, name := range names {
		if list[name] < least {
			t.Errorf("few of %s: %v", name, list)
		}
	}
	for name := range list {
		if !slices.Contains(names, name) {
			t.Errorf("unexpected: %s", name)
		}
	}
}
