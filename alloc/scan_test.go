package alloc_test

import (
	"strings"
	"testing"

	"cupel/alloc"
	"cupel/api"
)

// scanRow is the blocks of a function, so many registers of the machine, and the registers that are spilled.
type scanRow struct {
	blocks string
	k      int
	want   string
}

func expectScans(t *testing.T, faults []int, rows []scanRow) {
	t.Helper()
	for _, r := range rows {
		if got := showRegisters(spilledOf(t, read(t, inFunc(r.blocks)), 0, r.k, faults...)); got != r.want {
			t.Errorf("%s\nwith %d registers and the faults %v: spilled are %q, want %q", r.blocks, r.k, faults, got, r.want)
		}
	}
}

// P22.1: the example of the chapter.
func TestSpilledExample(t *testing.T) {
	v := read(t, example)
	for k, want := range []string{"r0 r1 r2", "r2", "", "", "", "", ""} {
		if got := showRegisters(spilledOf(t, v, 0, k)); got != want {
			t.Errorf("with %d registers: spilled are %q, want %q", k, got, want)
		}
	}
}

// P22.1: the span that ends last is spilled, of equal ones that of the greatest register, whichever began first.
func TestSpilledEndsLast(t *testing.T) {
	expectScans(t, nil, []scanRow{
		{"set r0, 0; set r1, 0; print r0; print r1; return;", 1, "r1"},
		{"set r0, 0; set r1, 0; print r1; print r0; return;", 1, "r0"},
		{"set r1, 0; set r0, 0; print r0; print r1; return;", 1, "r1"},
		{"set r1, 0; set r0, 0; print r1; print r0; return;", 1, "r0"},
		{"set r0, 0; set r1, 0; add r2, r0, r1; return;", 1, "r1"},
		{"set r1, 0; set r0, 0; add r2, r0, r1; return;", 1, "r1"},
		{"set r0, 0; set r1, 0; set r2, 0; print r1; print r2; print r0; return;", 2, "r0"},
		{"set r0, 0; set r1, 0; set r2, 0; print r0; print r2; print r1; return;", 2, "r1"},
		{"set r0, 0; set r1, 0; set r2, 0; print r0; print r1; print r2; return;", 2, "r2"},
		{"set r0, 0; set r1, 0; set r2, 0; print r0; print r1; print r2; return;", 1, "r1 r2"},
		{"set r2, 0; set r1, 0; set r0, 0; print r0; print r1; print r2; return;", 1, "r1 r2"},
		{"set r2, 0; set r1, 0; set r0, 0; print r0; print r1; print r2; return;", 2, "r2"},
		{"set r7, 0; set r1, 0; set r9, 0; add r0, r7, r1; print r9; return;", 2, "r9"},
		{"set r9, 0; set r1, 0; set r7, 0; add r0, r7, r1; print r9; return;", 2, "r9"},
		{"set r7, 0; set r1, 0; set r9, 0; print r1; add r0, r7, r9; return;", 2, "r9"},
		{"set r9, 0; set r1, 0; set r7, 0; print r1; add r0, r7, r9; return;", 2, "r9"},
		{"set r9, 0; set r1, 0; set r7, 0; print r9; add r0, r7, r1; return;", 2, "r7"},
	})
}

// P22.1: a register of the machine is free when the span that has it has ended before another one begins, not at the same point.
func TestSpilledFree(t *testing.T) {
	expectScans(t, nil, []scanRow{
		{"set r0, 0; print r0; set r1, 0; print r1; return;", 1, ""},
		{"set r0, 0; move r1, r0; move r2, r1; move r3, r2; return r3;", 1, ""},
		{"set r0, 0; set r1, 0; set r2, 0; return;", 1, ""},
		{"add r2, r0, r1; return;", 1, "r1"},
		{"add r2, r0, r1; return;", 2, ""},
		{"add r2, r1, r1; return;", 1, ""},
		{"set r0, 0; set r1, 1; set r0, 2; return;", 1, "r0"},
		{"set r0, 0; set r1, 0; print r1; print r0; set r2, 0; print r2; return;", 1, "r0"}, // r1 has it when r0 is spilled, and gives it back
		{"set r0, 0; set r1, 0; set r2, 0; print r2; print r1; print r0; return;", 1, "r0 r1"},
		{"set r0, 0; set r1, 0; print r1; set r2, 0; print r2; print r0; return;", 2, ""},
		{"set r0, 0; set r1, 0; print r1; set r2, 0; print r2; print r0; return;", 1, "r0"},
		{"set r0, 0; set r1, 0; print r0; set r2, 0; print r1; print r2; return;", 1, "r1"},
	})
	expectScans(t, []int{api.FtAlloc3}, []scanRow{ // spans that begin where another one ends
		{"set r0, 0; add r2, r0, r1; return;", 1, "r1"},
		{"set r1, 0; add r2, r0, r1; return;", 1, "r1"},
		{"set r1, 0; add r2, r0, r1; return;", 2, ""},
	})
}

// P22.1: what is spilled is never spilled again, and is in nobody's way.
func TestSpilledOnce(t *testing.T) {
	expectScans(t, nil, []scanRow{
		{"set r0, 0; set r1, 0; set r2, 0; set r3, 0; print r3; print r2; print r1; print r0; return;", 2, "r0 r1"},
		{"set r0, 0; set r1, 0; print r1; set r2, 0; set r3, 0; print r2; print r3; print r0; return;", 1, "r0 r3"},
		{"set r0, 0; set r1, 0; set r2, 0; print r1; set r3, 0; print r2; print r3; print r0; return;", 2, "r0"},
	})
}

// P22.1: as many registers as there are spans at once, and fewer.
func TestSpilledCounts(t *testing.T) {
	const blocks = "set r0, 0; set r1, 0; set r2, 0; set r3, 0; set r4, 0; set r5, 0; set r6, 0; print r0; print r1; print r2; print r3; print r4; print r5; print r6; return;"
	all := strings.Fields("r0 r1 r2 r3 r4 r5 r6")
	for k := range 7 {
		expectScans(t, nil, []scanRow{{blocks, k, strings.Join(all[k:], " ")}})
	}
}

// P22.1: registers that are never read or written are not spilled, even where all others are.
func TestSpilledNone(t *testing.T) {
	expectScans(t, nil, []scanRow{{"return;", 0, ""}, {"return;", 6, ""}, {"set r3, 0; return;", 0, "r3"}, {"set r3, 0; return;", 1, ""}, {"set r3, 0; call 1; return r8;", 0, "r3 r8"}})
}

// P22.1: spans that contain a call are spilled, and take no registers from others; other spans are not.
func TestSpilledCalls(t *testing.T) {
	expectScans(t, nil, []scanRow{
		{"set r0, 0; call 1; print r0; return;", 6, "r0"},
		{"set r0, 0; call 1; call 1; print r0; return;", 6, "r0"},
		{"set r0, 0; print r0; call 1; set r1, 0; print r1; return;", 6, ""},
		{"set r0, 0; arg 0, r0; call 1; result r1; print r1; return;", 6, ""},
		{"call 1; print r0; return;", 6, "r0"},
		{"print r1; call 1; result r0; print r0; return;", 6, ""},
		{"set r0, 0; call 1; set r0, 1; return;", 6, "r0"},
		{"set r0, 0; print r0; call 1; set r0, 1; return;", 6, "r0"}, // it is not live there, but its span goes over it
		{"set r0, 0; print r0; jump 1; b1: call 1; jump 2; b2: set r1, 0; jump 1;", 6, ""},
		{"set r0, 0; jump 1; b1: print r0; call 1; jump 1;", 6, "r0"}, // it is live at the jump back
		{"jump 2; b1: print r0; return; b2: call 1; set r0, 0; jump 1;", 6, "r0"},
		{"jump 2; b1: return; b2: call 1; set r0, 0; jump 1;", 6, ""},
		{"set r0, 0; set r1, 0; print r1; call 1; print r0; return;", 1, "r0"},
		{"set r0, 0; set r1, 0; set r2, 0; print r2; print r1; call 1; print r0; return;", 1, "r0 r1"},
		{"set r0, 0; set r1, 0; set r2, 0; print r2; print r1; call 1; print r0; return;", 2, "r0"},
	})
}

// P22.1: with FtAlloc1, spans that contain a call are like others.
func TestSpilledCallsFault(t *testing.T) {
	expectScans(t, []int{api.FtAlloc1}, []scanRow{
		{"set r0, 0; call 1; print r0; return;", 1, ""},
		{"set r0, 0; call 1; print r0; return;", 0, "r0"},
		{"set r0, 0; set r1, 0; print r1; call 1; print r0; return;", 1, "r0"},
		{"set r0, 0; set r1, 0; print r1; call 1; print r0; return;", 2, ""},
		{"set r0, 0; set r1, 0; call 1; print r0; print r1; return;", 1, "r1"},
	})
}

// P22.1: with FtAlloc3, calls behind the last read of a register do not matter, even if it is live.
func TestSpilledLiveFault(t *testing.T) {
	const blocks = "set r0, 0; jump 1; b1: print r0; call 1; jump 1;"
	expectScans(t, nil, []scanRow{{blocks, 6, "r0"}})
	expectScans(t, []int{api.FtAlloc3}, []scanRow{{blocks, 6, ""}, {blocks, 0, "r0"}})
	expectScans(t, []int{api.FtAlloc1, api.FtAlloc3}, []scanRow{{blocks, 1, ""}, {"set r0, 0; set r1, 0; call 1; print r0; print r1; return;", 1, "r1"}})
}

// P22.1: FtAlloc2, the faults of other layers, and Most do not matter.
func TestSpilledLimits(t *testing.T) {
	v := read(t, inFunc("set r0, 0; set r1, 0; set r2, 0; call 1; print r2; print r0; print r1; return;"))
	for _, x := range append(otherLimits(), api.Limit{Most: -1, Faults: []int{api.FtAlloc2}}, api.Limit{Faults: []int{2, api.FtAlloc2}}) {
		for k := range 7 {
			if list, e := alloc.Spilled(v, 0, k, x); e != api.OK || showRegisters(list) != "r0 r1 r2" {
				t.Errorf("with %d, %v: %v, error %d", k, x, list, e)
			}
		}
	}
}

// P22.1: the registers are those of the function that is meant.
func TestSpilledOfFunctions(t *testing.T) {
	v := read(t, "words 0; data; main 2; func args 2 regs 3 locals { b0: param r0, 0; param r2, 1; print r0; return r2; } func args 0 regs 3 locals { b0: set r2, 0; set r1, 0; print r2; print r1; return; } func args 0 regs 4 locals { b0: set r3, 0; call 0; print r3; return; }")
	for f, want := range []string{"r2", "r1", "r3"} {
		if got := showRegisters(spilledOf(t, v, f, 1)); got != want {
			t.Errorf("%d: %s, want %s", f, got, want)
		}
	}
}
