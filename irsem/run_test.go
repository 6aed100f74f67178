package irsem_test

import (
	"fmt"
	"slices"
	"strings"
	"testing"

	"cupel/api"
	"cupel/irsem"
)

// row is a module, the steps that it takes until it ends, and what it does.
type row struct {
	text  string
	steps int
	want  string
}

// inMain is a row for the code of a function that is all of a module, with 9 registers; head is what stands before the module's main.
func inMain(head, code string, steps int, want string) row {
	return row{head + " main f; func f params 0 regs 9 { " + code + " }", steps, want}
}

// checkRows runs modules with fewer, as many and more steps than they take: with fewer they print a beginning of what they print.
func checkRows(t *testing.T, rows []row) {
	t.Helper()
	for _, r := range rows {
		m := read(t, r.text)
		whole := run(t, m, r.steps)
		if got := show(whole); got != r.want {
			t.Errorf("%s\ndoes %s, want %s", r.text, got, r.want)
		}
		if strings.HasSuffix(r.want, cutOff) {
			continue
		}
		for n := range r.steps {
			b := run(t, m, n)
			if b.End != api.EnSteps || b.Code != 0 || len(b.Out) > len(whole.Out) || !slices.Equal(b.Out, whole.Out[:len(b.Out)]) {
				t.Errorf("%s\ndoes %s with %d steps, %s with %d", r.text, show(b), n, show(whole), r.steps)
			}
		}
		for _, n := range []int{r.steps + 1, r.steps + 2, r.steps + 1000, api.MaxMSteps} {
			if b := run(t, m, n); !equal(b, whole) {
				t.Errorf("%s\ndoes %s with %d steps, %s with %d", r.text, show(b), n, show(whole), r.steps)
			}
		}
	}
}

// P10.2: the example of the chapter.
func TestExample(t *testing.T) {
	const text = "main f; func f params 0 regs 1 { b0: r0 = add 2, 3; print r0; return; }"
	checkRows(t, []row{{text, 3, "[5] done"}, {text, 2, "[5] cut"}, {text, 1, "[] cut"}, {text, 0, "[] cut"}})
}

// P10.2: copies, operations and what is printed.
func TestOperations(t *testing.T) {
	checkRows(t, []row{
		inMain("", "b0: r3 = -5; r4 = r3; r3 = 7; print r4; print r3; print r8; print -9223372036854775808; return;", 8, "[-5 7 0 -9223372036854775808] done"),
		inMain("", "b0: r0 = 9223372036854775807; r0 = add r0, 1; print r0; r0 = sub r0, 1; print r0; r0 = mul r0, r0; print r0; return;", 8, "[-9223372036854775808 9223372036854775807 1] done"),
		inMain("", "b0: r0 = -7; r1 = 2; r2 = div r0, r1; print r2; r2 = rem r0, r1; print r2; r2 = div r1, r0; print r2; r2 = rem r1, r0; print r2; return;", 11, "[-3 -1 0 2] done"),
		inMain("", "b0: r0 = -9223372036854775808; r1 = div r0, -1; print r1; r1 = rem r0, -1; print r1; return;", 6, "[-9223372036854775808 0] done"),
		inMain("", "b0: r0 = 12; r1 = and r0, 10; print r1; r1 = or r0, 10; print r1; r1 = xor r0, 10; print r1; return;", 8, "[8 14 6] done"),
		inMain("", "b0: r0 = 65; r1 = shl 1, r0; print r1; r1 = shl 1, -1; print r1; r1 = shr -8, r0; print r1; r1 = shr -8, 64; print r1; return;", 10, "[2 -9223372036854775808 -4 -8] done"),
		inMain("", "b0: r0 = 4; r1 = eq r0, 4; print r1; r1 = ne r0, 4; print r1; r1 = lt r0, 4; print r1; r1 = le r0, 4; print r1; r1 = lt r0, 5; print r1; return;", 12, "[1 0 0 1 1] done"),
		inMain("", "b0: r0 = 3; r0 = sub r0, r0; print r0; r1 = sub 10, r1; r1 = sub 10, r1; print r1; return;", 7, "[0 0] done"),
		inMain("", "b0: print 1; r0 = div 1, r0; print 2; return;", 2, "[1] trap 1"),
		inMain("", "b0: print 1; r0 = rem 1, 0; print 2; return;", 2, "[1] trap 1"),
		inMain("", "b0: r0 = rem 0, 0; print 2; return;", 1, "[] trap 1"),
	})
}

// P10.2: a check traps unless A is from 0 to B - 1, whatever it is that is checked.
func TestChecks(t *testing.T) {
	for _, c := range []struct {
		a, b int64
		ok   bool
	}{
		{0, 1, true}, {3, 4, true}, {4, 4, false}, {5, 4, false}, {-1, 4, false}, {least, 4, false}, {greatest, 4, false},
		{0, 0, false}, {-1, 0, false}, {0, -1, false}, {-2, -1, false}, {least, -1, false}, {greatest - 1, greatest, true}, {greatest, greatest, false}, {0, least, false}, {greatest, least, false}, {17, 1000, true}, {0, 1000, true},
	} {
		want, steps := "[1] trap 2", 4
		if c.ok {
			want, steps = "[1 2] done", 6
		}
		checkRows(t, []row{
			inMain("", fmt.Sprintf("b0: r0 = %d; r1 = %d; print 1; check r0, r1; print 2; return;", c.a, c.b), steps, want),
			inMain("", fmt.Sprintf("b0: r0 = 1; r1 = 1; print 1; check %d, %d; print 2; return;", c.a, c.b), steps, want),
		})
	}
}

// P10.2: elements: an index goes round in both directions; small ones keep what is stored modulo 256.
func TestElements(t *testing.T) {
	checkRows(t, []row{
		inMain("", "local[3]; b0: r0 = load a0[0]; print r0; r0 = load a0[2]; print r0; store a0[1] = -5; r0 = load a0[1]; print r0; return;", 8, "[0 0 -5] done"),
		inMain("", "local[3]; b0: store a0[0] = 10; store a0[1] = 11; store a0[2] = 12; r0 = load a0[3]; print r0; r0 = load a0[-1]; print r0; r0 = load a0[-3]; print r0; r0 = load a0[-4]; print r0; return;", 12, "[10 12 10 12] done"),
		inMain("", "local[3]; b0: store a0[0] = 10; store a0[1] = 11; store a0[2] = 12; r1 = -9223372036854775808; r0 = load a0[r1]; print r0; r1 = 9223372036854775807; r0 = load a0[r1]; print r0; return;", 10, "[11 11] done"),
		inMain("", "local[5]; b0: store a0[7] = 1; store a0[-1] = 2; store a0[-5] = 3; store a0[9223372036854775807] = 4; r0 = load a0[2]; print r0; r0 = load a0[4]; print r0; r0 = load a0[0]; print r0; r0 = load a0[1]; print r0; return;", 13, "[4 2 3 0] done"),
		inMain("", "local[1]; b0: store a0[-77] = 6; r0 = load a0[1000]; print r0; return;", 4, "[6] done"),
		inMain("", "local[16]; b0: store a0[15] = 1; store a0[16] = 2; r0 = load a0[-1]; print r0; r0 = load a0[0]; print r0; return;", 7, "[1 2] done"),
		inMain("", "local[2] small; local[2]; b0: store a0[0] = 300; store a1[0] = 300; r0 = load a0[0]; print r0; r0 = load a1[0]; print r0; r0 = load a0[1]; print r0; return;", 9, "[44 300 0] done"),
		inMain("", "local[1] small; b0: store a0[0] = 255; r0 = load a0[0]; print r0; store a0[0] = 256; r0 = load a0[0]; print r0; store a0[0] = -1; r0 = load a0[0]; print r0; store a0[0] = -256; r0 = load a0[0]; print r0; return;", 13, "[255 0 255 0] done"),
		inMain("", "local[1] small; b0: store a0[0] = -9223372036854775808; r0 = load a0[0]; print r0; store a0[0] = 9223372036854775807; r0 = load a0[0]; print r0; store a0[0] = -300; r0 = load a0[0]; print r0; return;", 10, "[0 255 212] done"),
		inMain("", "local[2]; b0: r0 = 1; store a0[r0] = r0; r0 = load a0[r0]; print r0; store a0[r8] = 9; r0 = load a0[0]; print r0; return;", 8, "[1 9] done"),
		inMain("array x[2] small; array y[2];", "global y; global x; b0: store a0[0] = 257; store a1[0] = 257; r0 = load a0[2]; print r0; r0 = load a1[2]; print r0; r0 = load a1[1]; print r0; return;", 9, "[257 1 0] done"),
	})
}

// P10.2: cells have their Init at first, and keep what is put into them, through calls as well.
func TestCells(t *testing.T) {
	const cells = "cell x = 3; cell y = -9223372036854775808; cell z = 0;"
	checkRows(t, []row{
		inMain(cells, "b0: r0 = get c0; print r0; r0 = get c1; print r0; r0 = get c2; print r0; return;", 7, "[3 -9223372036854775808 0] done"),
		inMain(cells, "b0: put c0 = 300; put c2 = r0; r0 = get c0; print r0; put c1 = r0; r0 = get c1; print r0; r0 = get c2; print r0; return;", 10, "[300 300 0] done"),
		{cells + "main m; func g params 0 regs 1 { b0: r0 = get c0; r0 = add r0, 1; put c0 = r0; return; } func m params 0 regs 1 { b0: call g(); r0 = get c0; print r0; put c0 = 10; call g(); call g(); r0 = get c0; print r0; return; }", 21, "[4 12] done"},
	})
}

// P10.2: all phis of a block are read before the first one is written; what they read belongs to the block from which it was entered.
func TestPhis(t *testing.T) {
	checkRows(t, []row{
		inMain("", "b0: r0 = 1; r1 = 2; jump b1; b1: r0 = phi b0: r0, b1: r1; r1 = phi b0: r1, b1: r0; print r0; print r1; r2 = add r2, 1; r3 = lt r2, 3; branch r3, b1, b2; b2: return;", 25, "[1 2 2 1 1 2] done"),
		inMain("", "b0: branch 1, b1, b2; b1: jump b3; b2: jump b3; b3: r0 = phi b1: 10, b2: 20; print r0; return;", 5, "[10] done"),
		inMain("", "b0: branch 0, b1, b2; b1: jump b3; b2: jump b3; b3: r0 = phi b1: 10, b2: 20; print r0; return;", 5, "[20] done"),
		inMain("", "b0: r1 = 5; branch r1, b1, b1; b1: r0 = phi b0: r1; print r0; return;", 5, "[5] done"),
		inMain("", "b0: r5 = 1; jump b2; b1: r1 = phi b2: r0; print r1; return; b2: r0 = phi b0: r5, b3: 8; r5 = phi b0: r0, b3: r5; print r5; branch r5, b3, b1; b3: r5 = r5; jump b2;", 9, "[0 1] done"),
		inMain("", "b0: r0 = 1; r1 = 2; r2 = 3; jump b1; b1: r0 = phi b0: r1; r1 = phi b0: r2; r2 = phi b0: r0; print r0; print r1; print r2; return;", 11, "[2 3 1] done"),
		inMain("", "b0: r0 = 7; jump b1; b1: r0 = phi b0: r0, b1: r1; r1 = phi b0: 0, b1: r0; print r0; r2 = add r2, 1; r3 = lt r2, 4; branch r3, b1, b2; b2: return;", 27, "[7 0 7 0] done"),
		// A block that is entered behind a call was entered from the block with the call.
		{"main f; func f params 0 regs 2 { b0: jump b2; b1: r0 = phi b2: 1, b3: 2; print r0; return; b2: call g(); call g(); jump b1; b3: jump b1; } func g params 0 regs 0 { b0: jump b1; b1: jump b3; b2: return; b3: jump b2; }", 15, "[1] done"},
	})
}

// P10.2: of two phis that write the same register the second one does so last.
func TestPhisOfOneRegister(t *testing.T) {
	checkRows(t, []row{inMain("", "b0: jump b1; b1: r0 = phi b0: 1; r0 = phi b0: 2; r1 = phi b0: r0; print r0; print r1; return;", 7, "[2 0] done")})
}

// P10.2: ends: jumps, branches by anything but 0, returns and traps.
func TestEnds(t *testing.T) {
	checkRows(t, []row{
		inMain("", "b0: return;", 1, "[] done"),
		{"main f; func f params 0 regs 0 { b0: return; }", 1, "[] done"},
		inMain("", "b0: trap;", 1, "[] trap 3"),
		inMain("", "b0: print 1; trap;", 2, "[1] trap 3"),
		inMain("", "b0: jump b2; b1: print 1; return; b2: print 2; jump b1;", 5, "[2 1] done"),
		inMain("", "b0: branch r0, b1, b2; b1: print 1; return; b2: print 2; return;", 3, "[2] done"),
		inMain("", "b0: r0 = 1; branch r0, b1, b2; b1: print 1; return; b2: print 2; return;", 4, "[1] done"),
		inMain("", "b0: r0 = -9223372036854775808; branch r0, b1, b2; b1: print 1; return; b2: print 2; return;", 4, "[1] done"),
		inMain("", "b0: branch 2, b1, b2; b1: branch -1, b3, b2; b2: trap; b3: branch 0, b2, b4; b4: branch 256, b5, b2; b5: return;", 5, "[] done"),
		inMain("", "b0: jump b1; b1: jump b1;", endless, "[] cut"),
		inMain("", "b0: jump b1; b1: print 4; jump b1;", 8, "[4 4 4 4] cut"),
	})
}

// P10.2: calls: arguments are the first registers, the others are 0; the result becomes To, which may be any register, or none.
func TestCalls(t *testing.T) {
	checkRows(t, []row{
		{"main m; func m params 0 regs 3 { b0: r0 = 7; r1 = call g(r0, -2, 9); print r1; print r0; return; } func g params 3 regs 5 result { b0: print r0; print r1; print r2; print r3; print r4; r3 = 1; r4 = 1; r0 = 4; return r2; }", 14, "[7 -2 9 0 0 9 7] done"},
		{"main m; func m params 0 regs 1 { b0: r0 = 3; call g(r0); call g(r0); r0 = call g(5); print r0; return; } func g params 1 regs 2 result { b0: r1 = add r1, r0; r0 = 8; return r1; }", 15, "[5] done"},
		{"main m; func m params 0 regs 2 { b0: r0 = 3; r1 = 4; r0 = call g(r1, r0); print r0; print r1; return; } func g params 2 regs 2 result { b0: r0 = sub r0, r1; r1 = 0; return r0; }", 9, "[1 4] done"},
		{"main m; func m params 0 regs 1 { b0: r0 = 6; call g(); print r0; return; } func g params 0 regs 1 { b0: r0 = 9; return; }", 6, "[6] done"},
		{"main m; func m params 0 regs 1 { b0: r0 = call g(); print r0; call g(); print r0; return; } func g params 0 regs 0 result { b0: return -4; }", 7, "[-4 -4] done"},
		{"main m; func h params 1 regs 2 result { b0: r1 = mul r0, 10; return r1; } func g params 1 regs 3 result { b0: r1 = call h(r0); r2 = call h(r1); r2 = add r2, r0; return r2; } func m params 0 regs 1 { b0: r0 = call g(3); print r0; r0 = call h(r0); print r0; return; }", 15, "[303 3030] done"},
		{"main m; func m params 0 regs 0 { b0: call g(1); print 9; return; } func g params 1 regs 1 { b0: branch r0, b1, b2; b1: print 1; return; b2: print 2; return; }", 6, "[1 9] done"},
		{"main m; func m params 0 regs 0 { b0: call g(1, 2, 3, 4, 5, 6, 7, 8); return; } func g params 8 regs 8 { b0: print r0; print r7; print r3; return; }", 6, "[1 8 4] done"},
		// Main may stand anywhere, and be called by what is not called.
		{"main m; func n params 0 regs 0 { b0: call m(); trap; } func m params 0 regs 0 { b0: print 1; return; }", 2, "[1] done"},
	})
}

// P10.2: whatever ends the run in a call ends it for all callers.
func TestEndsInCalls(t *testing.T) {
	calls := func(code string) string {
		return "array z[2]; main m; func m params 0 regs 1 { b0: print 1; r0 = call g(0); print 3; return; } func g params 1 regs 2 result { b0: r1 = call h(r0); print 3; return r1; } func h params 1 regs 2 result { global z; " + code + " }"
	}
	checkRows(t, []row{
		{calls("b0: print 2; trap;"), 5, "[1 2] trap 3"},
		{calls("b0: print 2; check r0, 0; return 0;"), 5, "[1 2] trap 2"},
		{calls("b0: print 2; r1 = div 1, r0; return 0;"), 5, "[1 2] trap 1"},
		{calls("b0: print 2; r1 = rem 1, r0; return 0;"), 5, "[1 2] trap 1"},
		{calls("b0: print 2; jump b1; b1: jump b1;"), endless, "[1 2] cut"},
		{calls("b0: jump b1; b1: print 2; jump b1;"), 8, "[1 2 2] cut"},
		{calls("b0: print 2; return 0;"), 9, "[1 2 3 3] done"},
	})
}

// P10.2: arrays: local ones are zeros in each call, those that are given are the caller's, global ones the module's.
func TestArraysOfCalls(t *testing.T) {
	checkRows(t, []row{
		{"main m; func m params 0 regs 1 { b0: call g(); call g(); return; } func g params 0 regs 1 { local[2]; b0: r0 = load a0[1]; print r0; store a0[1] = 5; r0 = load a0[1]; print r0; return; }", 15, "[0 5 0 5] done"},
		{"main m; func m params 0 regs 1 { local[2]; local[2]; b0: store a0[0] = 1; store a1[0] = 2; call g(; a1, a0); r0 = load a0[1]; print r0; r0 = load a1[1]; print r0; return; } func g params 0 regs 1 { param[2]; local[2]; param[2]; b0: r0 = load a0[0]; print r0; r0 = load a2[0]; print r0; r0 = load a1[0]; print r0; store a0[1] = 8; store a2[1] = 9; store a1[1] = 7; return; }", 18, "[2 1 0 9 8] done"},
		{"main m; func m params 0 regs 1 { local[1] small; b0: call g(; a0); r0 = load a0[0]; print r0; return; } func g params 0 regs 0 { param[1] small; b0: call h(; a0); return; } func h params 0 regs 0 { local[1]; param[1] small; b0: store a1[0] = 259; return; }", 8, "[3] done"},
		{"array x[1]; array y[1]; main m; func m params 0 regs 1 { global y; b0: store a0[0] = 4; call g(; a0); r0 = load a0[0]; print r0; call h(); r0 = load a0[0]; print r0; return; } func g params 0 regs 1 { param[1]; global x; b0: r0 = load a0[0]; store a1[0] = r0; store a0[0] = 6; return; } func h params 0 regs 1 { global y; global x; b0: r0 = load a1[0]; print r0; r0 = load a0[0]; print r0; store a0[0] = 1; return; }", 18, "[6 4 6 1] done"},
		{"array x[2]; main m; func m params 0 regs 1 { local[2]; global x; b0: store a0[0] = 1; store a1[0] = 2; call g(2; a0); call g(3; a1); r0 = load a0[0]; print r0; r0 = load a1[0]; print r0; return; } func g params 1 regs 2 { param[2]; b0: r1 = load a0[0]; r1 = mul r1, r0; store a0[0] = r1; return; }", 17, "[2 6] done"},
		{"array x[3] small; main m; func m params 0 regs 1 { global x; b0: call g(; a0); r0 = load a0[2]; print r0; return; } func g params 0 regs 0 { param[3] small; b0: store a0[-1] = -1; return; }", 6, "[255] done"},
	})
}

// prints is the code of a loop that prints 1 so many times, in 1 + 4 n steps, and goes on with b2.
func prints(n int) string {
	return fmt.Sprintf("b0: jump b1; b1: print 1; r0 = add r0, 1; r1 = lt r0, %d; branch r1, b1, b2; b2: ", n)
}

// P10.2: MaxOut numbers may be printed, and one more ends the run, whether a step is left or not.
func TestPrintsTooMany(t *testing.T) {
	for _, c := range []struct {
		n, steps  int
		last      string
		out       int
		end, code int
	}{
		{api.MaxOut, 8003, "return;", api.MaxOut, api.EnDone, 0},
		{api.MaxOut, 8001, "return;", api.MaxOut, api.EnSteps, 0},
		{api.MaxOut, 9000, "trap;", api.MaxOut, api.EnTrap, api.TrStated},
		{api.MaxOut, 9000, "r0 = div 1, 0; return;", api.MaxOut, api.EnTrap, api.TrDivide},
		{api.MaxOut, 8003, "print 2; return;", api.MaxOut, api.EnSteps, 0},
		{api.MaxOut, 9000, "print 2; return;", api.MaxOut, api.EnSteps, 0},
		{api.MaxOut, 9000, "print 2; trap;", api.MaxOut, api.EnSteps, 0},
		{api.MaxOut - 1, 9000, "print 1; return;", api.MaxOut, api.EnDone, 0},
		{api.MaxOut - 1, 9000, "print 1; print 1; return;", api.MaxOut, api.EnSteps, 0},
		{api.MaxOut - 1, 9000, "call g(); return;", api.MaxOut, api.EnSteps, 0},
		{1_000_000, api.MaxMSteps, "return;", api.MaxOut, api.EnSteps, 0},
	} {
		r := inMain("", prints(c.n)+c.last, 0, "")
		b := run(t, read(t, r.text+" func g params 0 regs 0 { b0: print 1; print 1; return; }"), c.steps)
		ones := slices.Repeat([]int64{1}, c.out)
		if b.End != c.end || b.Code != c.code || !slices.Equal(b.Out, ones) {
			t.Errorf("%d numbers, then %s with %d steps: %d numbers, %d, %d", c.n, c.last, c.steps, len(b.Out), b.End, b.Code)
		}
	}
}

// P10.2: each instruction, each phi and each end is one step; MaxMSteps of them may be made.
func TestMostSteps(t *testing.T) {
	counts := func(n int) row {
		code := fmt.Sprintf("b0: r2 = 1; jump b1; b1: r0 = phi b0: 0, b1: r1; r1 = add r0, 1; r2 = lt r1, %d; branch r2, b1, b2; b2: print r1; return;", n)
		return inMain("", code, 4*n+4, fmt.Sprintf("[%d] done", n))
	}
	checkRows(t, []row{counts(1), counts(2), counts(20)})
	longest := counts(api.MaxMSteps/4 - 1)
	for steps, want := range map[int]string{api.MaxMSteps: longest.want, api.MaxMSteps - 1: "[1249999] cut", api.MaxMSteps - 2: "[] cut"} {
		if got := show(run(t, read(t, longest.text), steps)); got != want {
			t.Errorf("%s\ndoes %s with %d steps, want %s", longest.text, got, steps, want)
		}
	}
}

// P10.2: errors: first those of ir.Check, ErrLong before ErrArg, then those of steps.
func TestRunErrors(t *testing.T) {
	good := read(t, "main f; func f params 0 regs 1 { b0: print 1; return; }")
	for _, steps := range []int{least, -5000000, -1, api.MaxMSteps + 1, 1 << 32, greatest} {
		expectError(t, good, steps, api.ErrArg)
	}
	for _, c := range wrongModules() {
		for _, steps := range []int{0, 100, api.MaxMSteps, -1, api.MaxMSteps + 1} {
			expectError(t, c.m, steps, c.e)
		}
	}
	checkRows(t, []row{inMain("", "b0: print 1; return;", 2, "[1] done")})
	if b, e := irsem.Run(good, api.MaxMSteps); e != api.OK || show(b) != "[1] done" {
		t.Errorf("Run: %s, %d", show(b), e)
	}
	if b, e := irsem.Run(good, 0); e != api.OK || show(b) != "[] cut" {
		t.Errorf("Run: %s, %d", show(b), e)
	}
}

// expectError looks whether Run and Trace return an error, and nothing with it.
func expectError(t *testing.T, m api.Module, steps int, want api.Errno) {
	t.Helper()
	if b, e := irsem.Run(m, steps); e != want || !equal(b, api.Behaviour{}) {
		t.Errorf("%.300s\nRun with %d steps: %s, %d, want %d", fmt.Sprint(m), steps, show(b), e, want)
	}
	for _, most := range []int{0, 9, -1, 2001} {
		if list, e := irsem.Trace(m, steps, most); e != want || len(list) > 0 {
			t.Errorf("%.300s\nTrace with %d steps, %d blocks: %v, %d, want %d", fmt.Sprint(m), steps, most, list, e, want)
		}
	}
}

// wrongModule is a module for which ir.Check returns an error.
type wrongModule struct {
	m api.Module
	e api.Errno
}

func wrongModules() []wrongModule {
	blocks := func(list ...api.Block) api.Module {
		return api.Module{Funcs: []api.IFunc{{Name: "f", Regs: 1, Blocks: list}}}
	}
	leave := api.Term{Op: api.TmReturn}
	code := func(list ...api.Instr) api.Module { return blocks(api.Block{Code: list, End: leave}) }
	num := api.Opd{Reg: -1}
	return []wrongModule{
		{api.Module{}, api.ErrArg},
		{blocks(), api.ErrArg},
		{blocks(api.Block{}), api.ErrArg},
		{blocks(api.Block{End: api.Term{Op: 5}}), api.ErrArg},
		{blocks(api.Block{End: api.Term{Op: api.TmJump}}), api.ErrArg},
		{blocks(api.Block{End: api.Term{Op: api.TmJump, To: 1}}), api.ErrArg},
		{blocks(api.Block{End: api.Term{Op: api.TmReturn, A: num}}), api.ErrArg},
		{code(api.Instr{}), api.ErrArg},
		{code(api.Instr{Op: 11, To: -1}), api.ErrArg},
		{code(api.Instr{Op: -1, To: -1}), api.ErrArg},
		{code(api.Instr{Op: api.IxPhi}), api.ErrArg},
		{code(api.Instr{Op: api.IxCopy, To: 1, A: num}), api.ErrArg},
		{code(api.Instr{Op: api.IxCopy, A: api.Opd{Reg: 1}}), api.ErrArg},
		{code(api.Instr{Op: api.IxCopy, A: api.Opd{Reg: -2}}), api.ErrArg},
		{code(api.Instr{Op: api.IxBin, A: num, B: num}), api.ErrArg},
		{code(api.Instr{Op: api.IxBin, Kind: 15, A: num, B: num}), api.ErrArg},
		{code(api.Instr{Op: api.IxLoad, A: num}), api.ErrArg},
		{code(api.Instr{Op: api.IxGet}), api.ErrArg},
		{code(api.Instr{Op: api.IxCall, To: -1, Func: 1}), api.ErrArg},
		{code(api.Instr{Op: api.IxCall, To: -1}), api.ErrArg}, // a function that calls itself
		{code(slices.Repeat([]api.Instr{{Op: api.IxPrint, To: -1, A: num}}, api.MaxInstrs+1)...), api.ErrLong},
		{blocks(slices.Repeat([]api.Block{{}}, api.MaxIBlocks+1)...), api.ErrLong},
		{api.Module{Main: -1, Funcs: make([]api.IFunc, api.MaxIFuncs+1)}, api.ErrLong},
		{api.Module{Cells: make([]api.Cell, api.MaxICells+1)}, api.ErrLong},
		{api.Module{Arrays: make([]api.GArray, api.MaxIArrays+1)}, api.ErrLong},
		{api.Module{Funcs: []api.IFunc{{Regs: api.MaxRegs + 1}}}, api.ErrLong},
	}
}
