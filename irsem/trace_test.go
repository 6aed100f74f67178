package irsem_test

import (
	"fmt"
	"slices"
	"testing"

	"cupel/api"
	"cupel/irsem"
)

// visits writes blocks that were entered, as function.block.
func visits(list []api.Visit) string {
	text := ""
	for _, v := range list {
		text += fmt.Sprintf("%d.%d ", v.Func, v.Block)
	}
	return text
}

// expectTrace traces a module with some steps, with room for any number of blocks.
func expectTrace(t *testing.T, m api.Module, steps int, want ...api.Visit) {
	t.Helper()
	for _, most := range []int{0, 1, 2, len(want) - 1, len(want), len(want) + 1, 1999, 2000} {
		first := want[:min(most, len(want))]
		list, e := irsem.Trace(m, steps, most)
		if e != api.OK || !slices.Equal(list, first) {
			t.Errorf("%s\nTrace with %d steps, %d blocks: %s(%d), want %s", text(m), steps, most, visits(list), e, visits(first))
		}
	}
}

// P10.3: the example of the chapter.
func TestTraceExample(t *testing.T) {
	m := read(t, "main f; func f params 0 regs 1 { b0: r0 = add 2, 3; print r0; return; }")
	expectTrace(t, m, 3, api.Visit{Func: 0, Block: 0})
}

// P10.3: each entry of a block is one, in order, also where it is entered again.
func TestTrace(t *testing.T) {
	m := read(t, "main f; func f params 0 regs 2 { b0: jump b2; b1: r0 = add r0, 1; r1 = lt r0, 2; branch r1, b1, b3; b2: branch 1, b1, b3; b3: branch 0, b2, b4; b4: trap; }")
	v := func(block int) api.Visit { return api.Visit{Func: 0, Block: block} }
	// b0 takes 1 step, b2 1, b1 3 twice, b3 1, b4 1.
	expectTrace(t, m, 100, v(0), v(2), v(1), v(1), v(3), v(4))
	expectTrace(t, m, 9, v(0), v(2), v(1), v(1), v(3), v(4))
	// A block is entered when the end is made that leads there, also if no step is left then.
	expectTrace(t, m, 0, v(0))
	expectTrace(t, m, 1, v(0), v(2))
	expectTrace(t, m, 2, v(0), v(2), v(1))
	expectTrace(t, m, 4, v(0), v(2), v(1))
	expectTrace(t, m, 5, v(0), v(2), v(1), v(1))
	expectTrace(t, m, 8, v(0), v(2), v(1), v(1), v(3))
}

// P10.3: a call enters the block 0 of its function; going on behind it enters nothing.
func TestTraceOfCalls(t *testing.T) {
	m := read(t, "main m; func g params 1 regs 1 { b0: branch r0, b1, b2; b1: call h(); jump b2; b2: return; } func m params 0 regs 0 { b0: call g(0); call g(1); jump b1; b1: call h(); return; } func h params 0 regs 0 { b0: return; }")
	v := func(f, block int) api.Visit { return api.Visit{Func: f, Block: block} }
	whole := []api.Visit{v(1, 0), v(0, 0), v(0, 2), v(0, 0), v(0, 1), v(2, 0), v(0, 2), v(1, 1), v(2, 0)}
	expectTrace(t, m, 100, whole...)
	for steps, entered := range []int{1, 2, 3, 3, 4, 5, 6, 6, 7, 7, 8, 9, 9, 9} {
		expectTrace(t, m, steps, whole[:entered]...)
	}
}

// P10.3: what ends the run ends the list.
func TestTraceOfTraps(t *testing.T) {
	m := read(t, "main m; func g params 0 regs 1 { b0: jump b1; b1: r0 = div 1, 0; jump b2; b2: return; } func m params 0 regs 0 { b0: call g(); jump b1; b1: return; }")
	v := func(f, block int) api.Visit { return api.Visit{Func: f, Block: block} }
	expectTrace(t, m, 100, v(1, 0), v(0, 0), v(0, 1))
	m = read(t, "main f; func f params 0 regs 2 { "+prints(2000)+"print 1; jump b3; b3: return; }")
	if list := trace(t, m, 100_000, 2000); len(list) != 2000 || list[0].Block != 0 || list[1].Block != 1 || list[1999].Block != 1 {
		t.Errorf("%d blocks", len(list))
	}
	m = read(t, "main f; func f params 0 regs 2 { "+prints(1990)+"print 1; jump b3; b3: jump b4; b4: return; }")
	if list := trace(t, m, 100_000, 2000); len(list) != 1994 || list[1990].Block != 1 || list[1991].Block != 2 || list[1993].Block != 4 {
		t.Errorf("%d blocks", len(list))
	}
}

// P10.3: a run that enters more blocks than are wanted.
func TestTraceIsCut(t *testing.T) {
	m := read(t, "main f; func f params 0 regs 0 { b0: jump b1; b1: jump b2; b2: jump b1; }")
	want := []api.Visit{{Func: 0, Block: 0}}
	for len(want) < 2000 {
		want = append(want, api.Visit{Func: 0, Block: 1}, api.Visit{Func: 0, Block: 2})
	}
	for _, most := range []int{0, 1, 2, 3, 1000, 1999, 2000} {
		for _, steps := range []int{most, 100_000} {
			if list := trace(t, m, steps, most); !slices.Equal(list, want[:most]) {
				t.Errorf("Trace with %d steps, %d blocks: %s", steps, most, visits(list))
			}
		}
	}
}

// P10.3: errors: those of Run come first.
func TestTraceErrors(t *testing.T) {
	m := read(t, "main f; func f params 0 regs 0 { b0: return; }")
	for _, most := range []int{least, -1, 2001, 1 << 32, greatest} {
		for _, steps := range []int{0, 1, api.MaxMSteps} {
			if list, e := irsem.Trace(m, steps, most); e != api.ErrArg || len(list) > 0 {
				t.Errorf("Trace with %d steps, %d blocks: %v, %d", steps, most, list, e)
			}
		}
		for _, c := range wrongModules() {
			if list, e := irsem.Trace(c.m, 9, most); e != c.e || len(list) > 0 {
				t.Errorf("Trace with %d blocks: %v, %d, want %d", most, list, e, c.e)
			}
		}
	}
}
