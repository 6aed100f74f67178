package inline_test

import (
	"fmt"
	"slices"
	"strings"
	"testing"

	"cupel/api"
	"cupel/parts"
	"cupel/samples"
)

// size is how much a function has.
type size struct{ blocks, regs, instrs, arrays int }

func sizeOf(f api.IFunc) size {
	return size{len(f.Blocks), f.Regs, parts.Instructions(f), len(f.Arrays)}
}

// text is a function of this size, without parameters, whose first instruction may be a call, and whose arrays are local ones of one element.
func (n size) text(name, call string) string {
	prints := n.instrs
	if call != "" {
		prints--
	}
	s := fmt.Sprintf("func %s params 0 regs %d { %s b0: %s %s return; ", name, n.regs, strings.Repeat("local[1]; ", n.arrays), call, strings.Repeat("print 1; ", prints))
	for b := 1; b < n.blocks; b++ {
		s += fmt.Sprintf("b%d: return; ", b)
	}
	return s + "} "
}

// with is how much a function of this size has if it calls one of the size g first, and that is put there.
func (n size) with(g size, faults []int) size {
	made := size{n.blocks + g.blocks + 1, n.regs + g.regs, n.instrs - 1 + g.instrs, n.arrays + g.arrays}
	if !slices.Contains(faults, api.FtRegisters) {
		made.instrs += g.regs
	}
	if !slices.Contains(faults, api.FtZeros) {
		made.instrs += g.arrays
	}
	return made
}

func (n size) fits() bool {
	return n.blocks <= api.MaxIBlocks && n.regs <= api.MaxRegs && n.instrs <= api.MaxInstrs && n.arrays <= api.MaxIArrays
}

// P18.1: what arises is within the limits, with what each fault leaves out.
func TestLimits(t *testing.T) {
	for _, c := range []struct {
		f, g size
		fit  int // for how many lists of faults
	}{
		{size{58, 0, 1, 0}, size{1, 0, 0, 0}, 4},
		{size{59, 0, 1, 0}, size{1, 0, 0, 0}, 0},
		{size{1, 0, 1, 0}, size{58, 0, 0, 0}, 4},
		{size{1, 0, 1, 0}, size{59, 0, 0, 0}, 0},
		{size{60, 0, 1, 0}, size{60, 0, 0, 0}, 0},
		{size{1, 299, 1, 0}, size{1, 1, 0, 0}, 4},
		{size{1, 300, 1, 0}, size{1, 0, 0, 0}, 4},
		{size{1, 300, 1, 0}, size{1, 1, 0, 0}, 0},
		{size{1, 1, 1, 0}, size{1, 299, 30, 0}, 4},
		{size{1, 2, 1, 0}, size{1, 299, 30, 0}, 0},
		{size{1, 0, 400, 0}, size{1, 0, 1, 0}, 4},
		{size{1, 0, 400, 0}, size{1, 0, 2, 0}, 0},
		{size{1, 0, 371, 0}, size{1, 0, 30, 0}, 4},
		{size{1, 0, 372, 0}, size{1, 0, 30, 0}, 0},
		{size{1, 0, 400, 0}, size{1, 1, 0, 0}, 4},
		{size{1, 0, 400, 0}, size{1, 1, 1, 0}, 2},
		{size{1, 0, 400, 0}, size{1, 0, 1, 1}, 2},
		{size{1, 0, 400, 0}, size{1, 1, 1, 1}, 1},
		{size{1, 0, 399, 0}, size{1, 1, 1, 1}, 3},
		{size{1, 0, 1, 20}, size{1, 0, 0, 0}, 4},
		{size{1, 0, 1, 19}, size{1, 0, 0, 1}, 4},
		{size{1, 0, 1, 20}, size{1, 0, 0, 1}, 0},
		{size{1, 0, 1, 0}, size{1, 0, 0, 20}, 4},
		{size{1, 0, 1, 1}, size{1, 0, 0, 20}, 0},
		{size{40, 200, 300, 10}, size{19, 75, 26, 10}, 3},
		{size{40, 200, 300, 10}, size{19, 64, 27, 10}, 4},
	} {
		m := samples.Read(t, "main f; "+c.f.text("f", "call g();")+c.g.text("g", ""))
		fit := 0
		for _, faults := range pass.FaultLists() {
			want, count := c.f, 0
			if made := c.f.with(c.g, faults); made.fits() {
				want, count = made, 1
				fit++
			}
			made, list := pass.ExpectModel(t, m, 0, samples.All(faults...))
			if got := sizeOf(made.Funcs[0]); got != want || len(list) != count {
				t.Errorf("%v with %v, faults %v: %v, %d applications, want %v, %d", c.f, c.g, faults, got, len(list), want, count)
			}
		}
		if fit != c.fit {
			t.Errorf("%v with %v: %d lists of faults, want %d", c.f, c.g, fit, c.fit)
		}
	}
}

// P18.1: copies of results are instructions as well, arguments and elements too, and arrays of the module that are named already are not.
func TestWhatCounts(t *testing.T) {
	prints := func(n int) string { return strings.Repeat("print 1; ", n) }
	const two = "func g params 0 regs 0 result { b0: branch 1, b1, b2; b1: return 1; b2: return 2; }"
	const args = "func g params 3 regs 3 { b0: return; }"
	const elements = "func g params 0 regs 0 { local[16]; local[14]; b0: return; }"
	arrays := "global x; " + strings.Repeat("local[1]; ", 19)
	expect(t, []row{
		same("two results, too many", two, "1 { b0: r0 = call g(); "+prints(399)+"return;"),
		{"two results", two, "1 { b0: r0 = call g(); " + prints(398) + "return;", "1 { b0: jump b1; b1: branch 1, b2, b3; b2: r0 = 1; jump b4; b3: r0 = 2; jump b4; b4: " + prints(398) + "return;", "b0:0"},
		{"two results that are not used", two, "0 { b0: call g(); " + prints(399) + "return;", "0 { b0: jump b1; b1: branch 1, b2, b3; b2: jump b4; b3: jump b4; b4: " + prints(399) + "return;", "b0:0"},
		same("three arguments, too many", args, "0 { b0: call g(1, 2, 3); "+prints(398)+"return;"),
		{"three arguments", args, "0 { b0: call g(1, 2, 3); " + prints(397) + "return;", "3 { b0: r0 = 1; r1 = 2; r2 = 3; jump b1; b1: jump b2; b2: " + prints(397) + "return;", "b0:0"},
		same("30 elements, too many", elements, "0 { b0: call g(); "+prints(371)+"return;"),
		same("an array of the module, too many", "func g params 0 regs 0 { global x; global y; b0: return; }", "0 { "+arrays+"b0: call g(); return;"),
		{"an array of the module that is named", "func g params 0 regs 0 { global x; b0: return; }", "0 { " + arrays + "b0: call g(); return;", "0 { " + arrays + "b0: jump b1; b1: jump b2; b2: return;", "b0:0"},
		{"arrays that are given", "func g params 0 regs 0 { param[1]; param[2]; param[1]; b0: return; }", "0 { " + arrays + "b0: call g(; a1, a0, a2); return;", "0 { " + arrays + "b0: jump b1; b1: jump b2; b2: return;", "b0:0"},
	})
	full, _ := pass.Made(t, module(t, "0 { b0: call g(); "+prints(370)+"return;", elements), 0, samples.All())
	if n := sizeOf(full.Funcs[0]); n != (size{3, 0, 400, 2}) {
		t.Errorf("%v", n)
	}
}

// P18.1: a call that does not fit is passed over, and replaced as soon as it does.
func TestFitsLater(t *testing.T) {
	const others = "func g params 0 regs 0 { b0: return; } func h params 0 regs 0 { local[1]; b0: print 2; return; } func i params 0 regs 0 { b0: print 3; print 4; return; }"
	prints := strings.Repeat("print 1; ", 398)
	arrays := strings.Repeat("local[1]; ", 20)
	expect(t, []row{
		{"one instruction too many, until a call is gone", others, "0 { b0: call i(); call g(); " + prints + "return;", "0 { b0: jump b3; b1: jump b2; b2: " + prints + "return; b3: print 3; print 4; jump b4; b4: jump b1;", "b0:1 b0:0"},
		{"an array too many", others, "0 { " + arrays + "b0: call h(); call g(); call h(); call i(); return;", "0 { " + arrays + "b0: call h(); jump b1; b1: jump b2; b2: call h(); jump b3; b3: print 3; print 4; jump b4; b4: return;", "b0:1 b2:1"},
	})
	for most, want := range []string{"", "b0:1", "b0:1 b0:0"} {
		_, list := pass.ExpectModel(t, module(t, "0 { b0: call i(); call g(); "+prints+"return;", others), 0, api.Limit{Most: most})
		if !slices.Equal(list, pass.Applied(0, want)) {
			t.Errorf("Most %d: %v", most, list)
		}
	}
}

// P18.1: as many calls as there is room for.
func TestManyCalls(t *testing.T) {
	m := module(t, "0 { b0: "+strings.Repeat("call g(); ", 400)+"return;", "func g params 0 regs 3 { b0: print 5; return; }")
	made, list := pass.ExpectModel(t, m, 0, samples.All())
	if n := sizeOf(made.Funcs[0]); n != (size{1, 0, 400, 0}) || len(list) > 0 {
		t.Errorf("%v, %v", n, list)
	}
	m = module(t, "0 { b0: "+strings.Repeat("call g(); ", 300)+"return;", "func g params 0 regs 3 { b0: print 5; return; }")
	made, list = pass.ExpectModel(t, m, 0, samples.All())
	if n := sizeOf(made.Funcs[0]); n != (size{59, 87, 387, 0}) || len(list) != 29 {
		t.Errorf("%v, %v", n, list)
	}
	pass.ExpectKept(t, m, made)
}
