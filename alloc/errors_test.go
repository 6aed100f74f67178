package alloc_test

import (
	"fmt"
	"slices"
	"strings"
	"testing"

	"cupel/alloc"
	"cupel/api"
	"cupel/choose"
	"cupel/samples"
)

// expectErrors wants errors of the three functions for arguments, and nothing besides.
func expectErrors(t *testing.T, what string, v api.VCode, f, k int, x api.Limit, spans, spilled, image api.Errno) {
	t.Helper()
	if list, e := alloc.Spans(v, f, x); e != spans || e != api.OK && len(list) > 0 {
		t.Errorf("%s: Spans of %d with %v: error %d, want %d: %v", what, f, x, e, spans, list)
	}
	if list, e := alloc.Spilled(v, f, k, x); e != spilled || e != api.OK && len(list) > 0 {
		t.Errorf("%s: Spilled of %d, %d with %v: error %d, want %d: %v", what, f, k, x, e, spilled, list)
	}
	if i, e := alloc.Alloc(v, k, x); e != image || e != api.OK && !sameImage(i, api.Image{}) {
		t.Errorf("%s: Alloc with %d, %v: error %d, want %d: %v", what, k, x, e, image, i)
	}
}

// simple has two functions.
const simple = "words 1; data; main 1; func args 1 regs 1 locals { b0: param r0, 0; return r0; } func args 0 regs 2 locals { b0: set r0, 1; return; }"

// P22.1, P22.2: what is not the index of a function.
func TestFunctionErrors(t *testing.T) {
	v := read(t, simple)
	for _, f := range []int{0, 1} {
		expectErrors(t, "two functions", v, f, 2, samples.All(), api.OK, api.OK, api.OK)
	}
	for _, f := range []int{least, -2, -1, 2, 3, 20, 1 << 32, greatest} {
		expectErrors(t, "two functions", v, f, 2, samples.All(), api.ErrArg, api.ErrArg, api.OK)
	}
}

// P22.1, P22.2: numbers of registers.
func TestRegisterErrors(t *testing.T) {
	v := read(t, simple)
	for k := 0; k <= 6; k++ {
		expectErrors(t, "right", v, 0, k, samples.All(), api.OK, api.OK, api.OK)
	}
	for _, k := range []int{least, -2, -1, 7, 8, 10, 1 << 32, greatest} {
		expectErrors(t, "wrong", v, 0, k, samples.All(), api.OK, api.ErrArg, api.ErrArg)
	}
}

// P22.1, P22.2: lists that are not ascending numbers of faults, each once.
func TestFaultErrors(t *testing.T) {
	v := read(t, simple)
	for _, faults := range [][]int{{0}, {-1}, {25}, {least}, {greatest}, {1, 1}, {2, 1}, {1, 25}, {0, 1}, {22, 24, 23}, {1, 2, 3, 3}} {
		expectErrors(t, "wrong", v, 0, 1, samples.All(faults...), api.ErrArg, api.ErrArg, api.ErrArg)
	}
	for _, faults := range [][]int{nil, {}, {1}, {24}, {1, 24}, {22, 23, 24}, {1, 2, 3, 4, 5, 6, 7, 8, 9, 10, 11, 12, 13, 14, 15, 16, 17, 18, 19, 20, 21, 22, 23, 24}} {
		expectErrors(t, "right", v, 0, 1, samples.All(faults...), api.OK, api.OK, api.OK)
	}
}

// P22.1, P22.2, R2: the errors of choose.Check come first, then ErrArg, then ErrLong.
func TestErrorOrder(t *testing.T) {
	wrong, many := read(t, simple), read(t, simple)
	wrong.Funcs[0].Blocks[0][0].D = 1
	many.Words = 1001
	for _, c := range []struct {
		v    api.VCode
		want api.Errno
	}{{wrong, api.ErrArg}, {many, api.ErrLong}, {api.VCode{}, api.ErrArg}, {api.VCode{Funcs: make([]api.VFunc, 21)}, api.ErrLong}} {
		if e := choose.Check(c.v); e != c.want {
			t.Fatalf("Check: error %d, want %d", e, c.want)
		}
		expectErrors(t, "not valid", c.v, 0, 1, samples.All(), c.want, c.want, c.want)
		expectErrors(t, "not valid, and arguments that are wrong", c.v, -1, 7, samples.All(2, 1), c.want, c.want, c.want)
		expectErrors(t, "not valid, and no such function", c.v, 21, 0, samples.All(), c.want, c.want, c.want)
	}
	long := words(20001, 0)
	expectErrors(t, "long", long, 0, 6, samples.All(), api.OK, api.OK, api.ErrLong)
	expectErrors(t, "long, and a wrong k", long, 0, 7, samples.All(), api.OK, api.ErrArg, api.ErrArg)
	expectErrors(t, "long, and wrong faults", long, 0, 6, samples.All(0), api.ErrArg, api.ErrArg, api.ErrArg)
	expectErrors(t, "long, and no such function", long, 3, 6, samples.All(), api.ErrArg, api.ErrArg, api.ErrLong)
}

// words is virtual code whose code has so many words if nothing is spilled, in three functions of which two are not called; so many of its instructions need two of them.
func words(count, wide int) api.VCode {
	set := func(v int64) api.VInstr { return api.VInstr{Op: api.VcSet, D: 0, A: -1, B: -1, Imm: v} }
	var list []api.VInstr
	for range wide {
		list = append(list, set(1<<40))
	}
	for range count - 2*wide - 6 { // the beginning, and a return in each function
		list = append(list, set(5))
	}
	v := api.VCode{Main: 2}
	for _, part := range [][]api.VInstr{list[:len(list)/2], list[len(list)/2:], nil} {
		code := append(slices.Clone(part), api.VInstr{Op: api.VcReturn, D: -1, A: -1, B: -1})
		v.Funcs = append(v.Funcs, api.VFunc{Regs: 1, Blocks: [][]api.VInstr{code}})
	}
	return v
}

// expectRoom wants Alloc to return an image, or ErrLong.
func expectRoom(t *testing.T, what string, v api.VCode, k int, isRoom bool, faults ...int) {
	t.Helper()
	if e := choose.Check(v); e != api.OK {
		t.Fatalf("%s: not valid (%d)", what, e)
	}
	if isRoom {
		imageOf(t, v, k, faults...)
	} else if i, e := alloc.Alloc(v, k, samples.All(faults...)); e != api.ErrLong || !sameImage(i, api.Image{}) {
		t.Errorf("%s: %d words, error %d", what, len(i.Code), e)
	}
}

// P22.2, P22.5: as many words of code as there may be, and more of them.
func TestLongCode(t *testing.T) {
	for _, count := range []int{6, 7, 19999, 20000, 20001, 20002, 30000, 40000} {
		what := fmt.Sprint(count, " words")
		v := words(count, 0)
		if expectRoom(t, what, v, 1, count <= 20000); count <= 20000 {
			if i := imageOf(t, v, 6); len(i.Code) != count {
				t.Errorf("%d words, want %d", len(i.Code), count)
			}
		}
		if count > 5000 {
			expectRoom(t, what+", of which some are in pairs", words(count, 2000), 1, count <= 20000)
			expectRoom(t, what+", of which nearly all are in pairs", words(count, (count-6)/2), 1, count <= 20000)
		}
		expectRoom(t, what+", and as many stores", words((count-6)/2+6, 0), 0, (count-6)/2*2+6 <= 20000)
	}
}

// P22.2, P22.5: jumps and calls to the last word that there may be.
func TestLongCodeJumps(t *testing.T) {
	for _, count := range []int{20000, 20001} {
		v := words(count-3, 0)
		v.Funcs[2].Blocks = [][]api.VInstr{{{Op: api.VcJump, D: -1, A: -1, B: -1, Imm: 2}}, {{Op: api.VcTrap, D: -1, A: -1, B: -1}}, {{Op: api.VcZero, D: -1, A: 0, B: -1, Imm: 3}, {Op: api.VcJump, D: -1, A: -1, B: -1, Imm: 3}}, {{Op: api.VcReturn, D: -1, A: -1, B: -1}}}
		expectRoom(t, fmt.Sprint(count, " words"), v, 1, count == 20000)
		if count == 20000 {
			if s := textOf(imageOf(t, v, 1)); !strings.HasSuffix(s, " return; jump 19998; trap; zero r0, 19999; return;") {
				t.Errorf("the end is %s", s[len(s)-100:])
			}
		}
	}
}

// deep is virtual code of 20 functions, each of which calls the next one, and has as many arguments and local words as it may; together so many of their registers are spilled with k = 0.
func deep(spilled int) api.VCode {
	v := api.VCode{Words: 1000}
	for i := range 20 {
		f := api.VFunc{Args: 16, Locals: slices.Repeat([]int{16}, 20)}
		if i == 0 {
			f.Args = 0
		}
		var code []api.VInstr
		for spilled > 0 && f.Regs < 3900 {
			x := api.VInstr{Op: api.VcSet, D: f.Regs, A: -1, B: -1}
			if spilled >= 3 {
				x = api.VInstr{Op: api.VcBin + api.IbAdd, D: f.Regs, A: f.Regs + 1, B: f.Regs + 2}
				f.Regs, spilled = f.Regs+2, spilled-2
			}
			f.Regs, spilled = f.Regs+1, spilled-1
			code = append(code, x)
		}
		if i < 19 {
			code = append(code, api.VInstr{Op: api.VcCall, D: -1, A: -1, B: -1, Imm: int64(i) + 1})
		}
		f.Blocks = [][]api.VInstr{append(code, api.VInstr{Op: api.VcReturn, D: -1, A: -1, B: -1})}
		v.Funcs = append(v.Funcs, f)
	}
	return v
}

// deepest is how many registers of deep may be spilled: 20000 words are there, for the program, the arguments of a call that leads nowhere, arguments and local arrays.
const deepest = 20000 - 1000 - 16 - 19*16 - 20*320

// P22.2, P22.5: as many words of the memory as there may be, and one more.
func TestLongMemory(t *testing.T) {
	for _, n := range []int{0, 100, deepest - 1, deepest, deepest + 1, deepest + 2, deepest + 300} {
		what := fmt.Sprint(n, " registers")
		expectRoom(t, what, deep(n), 0, n <= deepest)
		less := deep(n)
		less.Words = 999
		expectRoom(t, what+", one word less", less, 0, n <= deepest+1)
		less = deep(n)
		less.Funcs[7].Args = 15
		expectRoom(t, what+", one argument less", less, 0, n <= deepest+1)
		less = deep(n)
		less.Funcs[3].Locals[5] = 14
		expectRoom(t, what+", two elements less", less, 0, n <= deepest+2)
		less = deep(n)
		less.Funcs[12].Regs++
		expectRoom(t, what+", a register more that is not used", less, 0, n <= deepest)
	}
}

// P22.2: with FtAlloc2, a place that is not used counts.
func TestLongMemoryFault(t *testing.T) {
	expectRoom(t, "all places", deep(deepest), 0, true, api.FtAlloc2)
	expectRoom(t, "one place more", deep(deepest+1), 0, false, api.FtAlloc2)
}

// P22.2: the registers of the machine make the need less.
func TestLongMemoryRegisters(t *testing.T) {
	v := deep(deepest + 3)
	expectRoom(t, "without registers", v, 0, false)
	expectRoom(t, "with one", v, 1, true)
}

// P22.2: what counts is the greatest need of the functions that Main calls, not of others, wherever a call is.
func TestNeedOfCalls(t *testing.T) {
	call := func(f int64) api.VInstr { return api.VInstr{Op: api.VcCall, D: -1, A: -1, B: -1, Imm: f} }
	leave := api.VInstr{Op: api.VcReturn, D: -1, A: -1, B: -1}
	v := deep(deepest + 300)
	v.Main, v.Funcs[1].Args = 1, 0
	expectRoom(t, "a caller is not called", v, 0, true)
	v = deep(deepest + 1)
	code := v.Funcs[0].Blocks[0]
	v.Funcs[0].Blocks[0] = slices.Concat(code[:len(code)-2], []api.VInstr{leave}) // no call
	expectRoom(t, "the others are not called", v, 0, true)
	v.Funcs[0].Blocks = append(v.Funcs[0].Blocks, []api.VInstr{call(1), leave})
	expectRoom(t, "the call is not reached", v, 0, false)
	v.Funcs[0].Blocks = append(v.Funcs[0].Blocks[:1], []api.VInstr{call(10), call(2), call(12), call(2), leave})
	expectRoom(t, "a call is left out", v, 0, true)
	v.Funcs[0].Blocks = append(v.Funcs[0].Blocks[:1], []api.VInstr{call(10), call(1), call(12), leave})
	expectRoom(t, "the greatest one is not the last", v, 0, false)
	v = deep(deepest)
	for i := range v.Funcs {
		code := v.Funcs[i].Blocks[0]
		for to := len(v.Funcs) - 1; to > i; to-- {
			code = append([]api.VInstr{call(int64(to)), call(int64(to))}, code...)
		}
		v.Funcs[i].Blocks[0] = code
	}
	expectRoom(t, "all of them call all others", v, 0, true)
}
