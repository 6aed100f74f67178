package alloc_test

import (
	"fmt"
	"slices"
	"testing"

	"cupel/alloc"
	"cupel/api"
	"cupel/samples"
)

// example is the code of the examples of the chapter.
const example = "words 0; data; main 0; func args 0 regs 3 locals { b0: set r1, 0; set r2, 7; sub r0, r2, r1; print r0; return; }"

// spansRow is the blocks of a function, its spans, and those with FtAlloc3, if they are different.
type spansRow struct{ blocks, want, wrong string }

func expectSpans(t *testing.T, rows []spansRow) {
	t.Helper()
	for _, r := range rows {
		v := read(t, inFunc(r.blocks))
		if got := showSpans(spansOf(t, v, 0)); got != r.want {
			t.Errorf("%s\nhas the spans %s, want %s", r.blocks, got, r.want)
		}
		if r.wrong == "" {
			r.wrong = r.want
		}
		if got := showSpans(spansOf(t, v, 0, api.FtAlloc3)); got != r.wrong {
			t.Errorf("%s\nhas, with FtAlloc3, the spans %s, want %s", r.blocks, got, r.wrong)
		}
	}
}

// P22.1: the example of the chapter.
func TestSpansExample(t *testing.T) {
	if got := showSpans(spansOf(t, read(t, example), 0)); got != "r0:5-6 r1:1-4 r2:3-4" {
		t.Errorf("%s", got)
	}
}

// P22.1: the points at which registers are read and written, in one block.
func TestSpansInBlock(t *testing.T) {
	expectSpans(t, []spansRow{
		{"return;", "", ""},
		{"set r0, 1; return;", "r0:1-1", ""},
		{"set r0, 1; print r0; return;", "r0:1-2", ""},
		{"set r9, 1; set r9, 2; return;", "r9:1-3", ""},
		{"set r0, 1; addi r0, r0, 1; addi r0, r0, 1; return;", "r0:1-5", ""},
		{"move r3, r3; return;", "r3:0-1", ""},
		{"set r0, 1; print r0; set r0, 2; return;", "r0:1-5", ""},
		{"set r4, 1; add r2, r4, r4; return r2;", "r2:3-4 r4:1-2", ""},
		{"set r1, 1; set r2, 2; add r2, r1, r2; set r0, 3; return;", "r0:7-7 r1:1-4 r2:3-5", ""},
	})
}

// P22.1: what is read before it is written is live from the beginning on.
func TestSpansFromBeginning(t *testing.T) {
	expectSpans(t, []spansRow{
		{"print r0; return;", "r0:0-0", ""},
		{"set r1, 0; print r0; return;", "r0:0-2 r1:1-1", "r0:2-2 r1:1-1"},
		{"set r1, 0; set r1, 0; add r0, r1, r0; return;", "r0:0-5 r1:1-4", "r0:4-5 r1:1-4"},
		{"set r1, 0; jump 1; b1: set r1, 0; return r0;", "r0:0-6 r1:1-5", "r0:6-6 r1:1-5"},
	})
}

// P22.1: registers are live on the ways from block to block, wherever the blocks stand.
func TestSpansOfBlocks(t *testing.T) {
	expectSpans(t, []spansRow{
		{"set r0, 1; jump 2; b1: print r0; return; b2: set r1, 0; jump 1;", "r0:1-10 r1:9-9", "r0:1-4 r1:9-9"},              // r0 is live in b2, behind its last read
		{"jump 2; b1: print r0; return; b2: set r0, 1; zero r1, 1; jump 3; b3: return;", "r0:2-8 r1:0-8", "r0:2-7 r1:8-8"},  // live for VcZero alone
		{"jump 2; b1: print r0; return; b2: set r0, 1; zero r1, 3; jump 1; b3: return;", "r0:2-10 r1:0-8", "r0:2-7 r1:8-8"}, // live for VcJump as well
		{"jump 2; b1: print r0; return; b2: set r0, 1; zero r1, 1; jump 1; b3: return;", "r0:2-10 r1:0-8", "r0:2-7 r1:8-8"},
		{"jump 2; b1: set r0, 2; print r0; return; b2: set r0, 1; zero r0, 1; jump 1;", "r0:3-10", ""}, // written first in b1
		{"set r0, 1; zero r0, 2; jump 1; b1: print r1; return; b2: print r2; return;", "r0:1-2 r1:0-6 r2:0-10", "r0:1-2 r1:6-6 r2:10-10"},
		{"set r0, 1; jump 1; b1: jump 2; b2: jump 3; b3: set r1, 1; return r0;", "r0:1-10 r1:9-9", ""},
		{"jump 3; b1: print r0; trap; b2: jump 1; b3: jump 2;", "r0:0-8", "r0:2-2"},
		{"jump 3; b1: print r0; trap; b2: set r0, 1; jump 1; b3: jump 2;", "r0:2-8", "r0:2-7"},
	})
}

// P22.1: loops, in which registers are live up to the jump back, if they are read again.
func TestSpansOfLoops(t *testing.T) {
	expectSpans(t, []spansRow{
		{"set r0, 5; jump 1; b1: print r0; subi r1, r1, 1; zero r1, 2; jump 1; b2: return;", "r0:1-10 r1:0-10", "r0:1-4 r1:6-8"},
		{"set r0, 5; jump 1; b1: print r0; set r0, 4; set r1, 3; zero r1, 2; jump 1; b2: return;", "r0:1-12 r1:9-10", "r0:1-7 r1:9-10"},
		{"set r0, 5; jump 1; b1: jump 1;", "r0:1-1", ""},
		{"jump 1; b1: set r1, 3; zero r1, 1; jump 1;", "r1:3-4", ""},
		{"set r0, 5; jump 1; b1: jump 2; b2: zero r1, 1; jump 3; b3: jump 1; b4: return r0;", "r0:1-12 r1:0-10", "r0:1-12 r1:6-6"}, // r0 is read in a block that no other one leads to
		{"set r0, 5; jump 1; b1: zero r1, 3; jump 2; b2: zero r2, 1; jump 2; b3: return r0;", "r0:1-12 r1:0-10 r2:0-10", "r0:1-12 r1:4-4 r2:8-8"},
	})
}

// P22.1: blocks that are not reached count.
func TestSpansNotReached(t *testing.T) {
	expectSpans(t, []spansRow{
		{"set r0, 1; return; b1: print r0; return;", "r0:1-4", ""},
		{"jump 1; b1: print r0; return; b2: set r1, 1; jump 1;", "r0:0-8 r1:7-7", "r0:2-2 r1:7-7"},
		{"return; b1: print r0; print r0; jump 1;", "r0:2-6", "r0:2-4"},
	})
}

// P22.1: each operation reads A and B at one point, and writes D at the next one, if it names them.
func TestSpansOfOps(t *testing.T) {
	for _, o := range samples.VirtualOps() {
		x := api.VInstr{Op: o.Op, D: -1, A: -1, B: -1}
		want := ""
		for _, c := range []struct {
			field rune
			to    *int
			span  string
		}{{'A', &x.A, "r0:0-4 "}, {'B', &x.B, "r1:0-4 "}, {'D', &x.D, "r2:5-5 "}} {
			if slices.Contains([]rune(o.Fields), c.field) {
				*c.to = int(c.span[1] - '0')
				want += c.span
			}
		}
		v := read(t, inFunc("set r9, 0; set r9, 0; return; b1: return;"))
		f := &v.Funcs[0]
		f.Args, f.Locals, v.Main = 1, []int{1}, 1
		v.Funcs[1].Args = 0
		rest := f.Blocks[0][2:]
		switch o.Op {
		case api.VcJump, api.VcReturn, api.VcTrap:
			rest = nil
		case api.VcZero:
			rest = []api.VInstr{{Op: api.VcJump, D: -1, A: -1, B: -1}}
			x.Imm = 1
			want = "r0:0-6 " // the jump leads back to b0
		case api.VcCall:
			x.Imm = 1
		}
		f.Blocks[0] = append(append(slices.Clone(f.Blocks[0][:2]), x), rest...)
		want += "r9:1-3"
		if got := showSpans(spansOf(t, v, 0)); got != want {
			t.Errorf("%s: %s, want %s", samples.VirtualText(v), got, want)
		}
	}
}

// P22.1: a return of nothing reads nothing.
func TestSpansOfReturn(t *testing.T) {
	expectSpans(t, []spansRow{{"set r0, 1; return;", "r0:1-1", ""}, {"set r0, 1; return r0;", "r0:1-2", ""}, {"trap; b1: return r9;", "r9:2-2", ""}})
}

// P22.1: the spans are those of the function that is meant, whose points begin with 0.
func TestSpansOfFunctions(t *testing.T) {
	v := read(t, "words 0; data; main 2; func args 1 regs 3 locals { b0: param r2, 0; return r2; } func args 0 regs 2 locals 3 { b0: local r1, 0; jump 1; b1: load r0, 0, r1; print r0; return; } func args 0 regs 4 locals { b0: call 0; result r3; print r3; call 1; return; }")
	for f, want := range []string{"r2:1-2", "r0:5-6 r1:1-4", "r3:3-4"} {
		if got := showSpans(spansOf(t, v, f)); got != want {
			t.Errorf("%d: %s, want %s", f, got, want)
		}
	}
}

// P22.1: other faults, and Most, do not matter.
func TestSpansLimits(t *testing.T) {
	v := read(t, inFunc("set r0, 5; jump 1; b1: print r0; subi r1, r1, 1; zero r1, 2; jump 1; b2: return;"))
	for _, x := range otherLimits() {
		list, e := alloc.Spans(v, 0, x)
		if got := showSpans(list); e != api.OK || got != "r0:1-10 r1:0-10" {
			t.Errorf("with %v: %s, error %d", x, got, e)
		}
	}
	for _, most := range []int{least, -2, 0, 1, greatest} {
		list, e := alloc.Spans(v, 0, api.Limit{Most: most, Faults: []int{1, api.FtAlloc3}})
		if got := showSpans(list); e != api.OK || got != "r0:1-4 r1:6-8" {
			t.Errorf("with Most %d: %s, error %d", most, got, e)
		}
	}
}

// P22.1: many registers and instructions.
func TestSpansOfMany(t *testing.T) {
	const regs = 4000
	f := api.VFunc{Regs: regs}
	var code []api.VInstr
	for r := range regs {
		code = append(code, api.VInstr{Op: api.VcSet, D: r, A: -1, B: -1})
	}
	for r := range regs {
		code = append(code, api.VInstr{Op: api.VcPrint, D: -1, A: regs - 1 - r, B: -1})
	}
	f.Blocks = [][]api.VInstr{append(code, api.VInstr{Op: api.VcJump, D: -1, A: -1, B: -1, Imm: 59})}
	for b := 1; b < 60; b++ { // each leads to the one before it, and the first of them to r0
		code := []api.VInstr{{Op: api.VcJump, D: -1, A: -1, B: -1, Imm: int64(b - 1)}}
		if b == 1 {
			code = []api.VInstr{{Op: api.VcReturn, D: -1, A: 0, B: -1}}
		}
		f.Blocks = append(f.Blocks, code)
	}
	list := spansOf(t, api.VCode{Funcs: []api.VFunc{f}}, 0)
	if len(list) != regs {
		t.Fatalf("%d spans", len(list))
	}
	for r, s := range list {
		want := fmt.Sprintf("r%d:%d-%d", r, 2*r+1, 2*(2*regs-1-r))
		if r == 0 {
			want = fmt.Sprintf("r0:1-%d", 2*(2*regs+59))
		}
		if got := showSpans([]api.VSpan{s}); got != want {
			t.Fatalf("%s, want %s", got, want)
		}
	}
}
