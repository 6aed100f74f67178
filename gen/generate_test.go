package gen_test

import (
	"fmt"
	"testing"

	"cupel/api"
	"cupel/defined"
	"cupel/gen"
	"cupel/sem"
	"cupel/syntax"
	"cupel/types"
)

// P6.2: the programs of many plans are those of the model, and all that the chapter names happens in them.
func TestModel(t *testing.T) {
	seen := map[string]int{}
	look := func(x api.Plan) {
		want, _ := modelOf(t, x, seen)
		if p, e := gen.Generate(x); e != api.OK || !syntax.Same(p, want) {
			t.Fatalf("%v: error %d\n%s\nwant\n%s", x, e, text(p), text(want))
		}
	}
	plans(6000, look)
	for _, x := range sharing {
		look(x)
	}
	list := []string{
		"array param", "array let", "an array was taken", "no array of 0 for argument 0", "no array of 1 for argument 0", "no array of 1 for argument 1",
		"leaf global", "leaf param", "leaf let", "leaf for", "leaf instead of int 4", "leaf instead of int 7",
		"room 1 cut to 0", "room 2 cut to 0", "room 3 cut to 0", "room 2 cut to 1", "room 3 cut to 1", "room 3 cut to 2",
	}
	for form := range 13 {
		list = append(list, fmt.Sprint("statement ", form))
	}
	for _, form := range []int{3, 4, 5, 8, 9, 10, 11, 12} {
		list = append(list, fmt.Sprint("print instead of ", form))
	}
	for form := range 8 {
		list = append(list, fmt.Sprint("int ", form))
	}
	for form := range 5 {
		list = append(list, fmt.Sprint("small ", form))
	}
	for form := range 4 {
		list = append(list, fmt.Sprint("bool ", form))
	}
	for _, what := range list {
		if seen[what] < 10 {
			t.Errorf("%s: %d times", what, seen[what])
		}
	}
	t.Log(seen)
}

// P6.2: a program that is too large, or becomes so by its guards, is made again with half the statements, from the state at which it ended.
func TestBegunAgain(t *testing.T) {
	for _, x := range tooLarge {
		want, again := modelOf(t, x, map[string]int{})
		p, e := gen.Generate(x)
		if again == 0 || e != api.OK || !syntax.Same(p, want) {
			t.Errorf("%v: error %d, begun again %d times\n%s\nwant\n%s", x, e, again, text(p), text(want))
		}
	}
}

// P6.4: generated programs have no flaw, their proofs say that they are defined, and Guard changes nothing in them.
func TestGeneratedAreDefined(t *testing.T) {
	ends := map[int]int{}
	look := func(x api.Plan) {
		p, e := gen.Generate(x)
		if flaw, f := types.Check(p); e != api.OK || f != api.OK || flaw.Code != 0 {
			t.Fatalf("%v: error %d\n%s\nerror %d, flaw %v", x, e, text(p), f, flaw)
		}
		if proof, e := defined.Prove(p); e != api.OK || !proof.Defined {
			t.Fatalf("%v\n%s\nproof %v, error %d", x, text(p), proof, e)
		}
		if q, e := gen.Guard(p); e != api.OK || !syntax.Same(p, q) {
			t.Fatalf("%v\n%s\nguarded: error %d\n%s", x, text(p), e, text(q))
		}
		b, _, place, _ := sem.Run(p, api.MaxSteps)
		if ends[b.End]++; b.End == api.EnUndefined {
			t.Errorf("%v\n%s\nundefined at %v", x, text(p), place)
		}
	}
	plans(3000, look)
	for _, x := range tooLarge {
		look(x)
	}
	if ends[api.EnDone] < 500 || ends[api.EnTrap] < 500 {
		t.Errorf("few of the ends: %v", ends)
	}
}

// P6.5: the same plan makes the same program; another seed, or number, mostly another one.
func TestSamePlan(t *testing.T) {
	texts := map[string]bool{}
	plans(1000, func(x api.Plan) {
		p, _ := gen.Generate(x)
		q, e := gen.Generate(x)
		if e != api.OK || !syntax.Same(p, q) {
			t.Errorf("%v: error %d\n%s\nthen\n%s", x, e, text(p), text(q))
		}
		texts[text(p)] = true
	})
	if len(texts) < 950 {
		t.Errorf("%d programs of 1000 plans", len(texts))
	}
}

// P6.2: as many functions as the plan says, then main; rooms are shared among them.
func TestFunctions(t *testing.T) {
	plans(500, func(x api.Plan) {
		p, _ := gen.Generate(x)
		names := ""
		for _, f := range p.Funcs {
			names += f.Name + " "
		}
		if want := "f0 f1 f2 f3 "[:3*x.Funcs] + "main "; names != want {
			t.Errorf("%v: %s, want %s", x, names, want)
		}
	})
}
