package choose_test

import (
	"fmt"
	"math/rand/v2"
	"slices"
	"strings"
	"testing"

	"cupel/api"
	"cupel/choose"
	"cupel/samples"
)

const (
	least    = -1 << 63
	greatest = 1<<63 - 1
)

// own are the faults of this layer.
func own() []int { return []int{api.FtChoose1, api.FtChoose2, api.FtChoose3} }

// faultLists returns all lists of the faults of this layer, the one without any first.
func faultLists() [][]int { return samples.Pass{Faults: own()}.FaultLists() }

// random draws numbers, always the same ones.
func random(seed uint64) *rand.Rand { return rand.New(rand.NewPCG(seed, 21)) }

// pick draws one of a list.
func pick[T any](r *rand.Rand, list ...T) T { return list[r.IntN(len(list))] }

// made returns the virtual code of a module, which has to be valid.
func made(t *testing.T, m api.Module, faults ...int) api.VCode {
	t.Helper()
	v, e := choose.Make(m, samples.All(faults...))
	if e != api.OK {
		t.Fatalf("%s\nMake with %v: error %d", samples.Text(m), faults, e)
	}
	if e := choose.Check(v); e != api.OK {
		t.Fatalf("%s\nMake with %v: not valid (%d):\n%s", samples.Text(m), faults, e, samples.VirtualText(v))
	}
	return v
}

// run returns what valid virtual code does.
func run(t *testing.T, v api.VCode, steps int) api.Behaviour {
	t.Helper()
	b, e := choose.Run(v, steps)
	if e != api.OK {
		t.Fatalf("%s\nRun with %d steps: error %d", samples.VirtualText(v), steps, e)
	}
	return b
}

// codeOf writes the instructions of a function, with a bar between two blocks.
func codeOf(f api.VFunc) string {
	var blocks []string
	for _, list := range f.Blocks {
		blocks = append(blocks, samples.VirtualCode(list...))
	}
	return strings.Join(blocks, " | ")
}

// sameCode reports whether all fields are equal.
func sameCode(a, b api.VCode) bool {
	return slices.Equal(a.Data, b.Data) && a.Words == b.Words && a.Main == b.Main && slices.EqualFunc(a.Funcs, b.Funcs, func(f, g api.VFunc) bool {
		return f.Regs == g.Regs && f.Args == g.Args && slices.Equal(f.Locals, g.Locals) && slices.EqualFunc(f.Blocks, g.Blocks, slices.Equal)
	})
}

func equal(a, b api.Behaviour) bool {
	return slices.Equal(a.Out, b.Out) && a.End == b.End && a.Code == b.Code
}

// show writes a behaviour as rows of tests have it.
func show(b api.Behaviour) string {
	how := fmt.Sprintf("end %d %d", b.End, b.Code)
	switch {
	case b.End == api.EnDone && b.Code == 0:
		how = "done"
	case b.End == api.EnTrap:
		how = fmt.Sprintf("trap %d", b.Code)
	case b.End == api.EnSteps && b.Code == 0:
		how = "cut"
	}
	return fmt.Sprint(b.Out, " ", how)
}

// repeated returns a list of n equal values.
func repeated[T any](n int, v T) []T { return slices.Repeat([]T{v}, n) }
