package flow_test

import (
	"fmt"
	"strings"
	"testing"

	"cupel/api"
)

// around is a module whose function 0 has this code, with 2 parameters, 9 registers and no result, and that has what such code may name.
func around(code string) string {
	return "cell c = 1; array x[2]; main m; func f params 2 regs 9 { local[3]; global x; " + code + " } func m params 0 regs 0 { b0: return; } func g params 2 regs 2 { b0: return; } func h params 2 regs 2 result { param[3]; b0: return r1; }"
}

func expectLive(t *testing.T, name, module string, in, out string) {
	t.Helper()
	a, b := live(t, read(t, module), 0)
	if fmt.Sprint(a) != in || fmt.Sprint(b) != out {
		t.Errorf("%s: live %v, %v, want %s, %s", name, a, b, in, out)
	}
}

// P11.4: what each instruction reads and defines, in one block.
func TestLiveInstrs(t *testing.T) {
	for _, c := range []struct{ code, in string }{
		{"return;", "[]"},
		{"trap;", "[]"},
		{"r3 = r4; return;", "[4]"},
		{"r3 = 4; return;", "[]"},
		{"r3 = add r5, r4; return;", "[4 5]"},
		{"r3 = div r5, 4; return;", "[5]"},
		{"r3 = sub 5, r4; return;", "[4]"},
		{"r3 = sub r4, r4; return;", "[4]"},
		{"check r5, r4; return;", "[4 5]"},
		{"r3 = load a0[r4]; return;", "[4]"},
		{"store a1[r7] = r6; return;", "[6 7]"},
		{"r3 = get c0; print r3; return;", "[]"},
		{"put c0 = r4; return;", "[4]"},
		{"print r4; return;", "[4]"},
		{"print 4; return;", "[]"},
		{"call g(r6, r5); return;", "[5 6]"},
		{"call g(r6, 5); return;", "[6]"},
		{"r3 = call h(r6, r5; a0); print r3; return;", "[5 6]"},
		{"call h(r0, r1; a0); print r3; return;", "[0 1 3]"},
		{"print r0; return;", "[0]"},
		{"print r1; print r8; return;", "[1 8]"},
	} {
		expectLive(t, c.code, around("b0: "+c.code), "["+c.in+"]", "[[]]")
	}
}

// P11.4: what is read before anything in the block defines it; an instruction reads before it defines.
func TestLiveOrder(t *testing.T) {
	for _, c := range []struct{ code, in string }{
		{"r3 = 1; print r3; return;", "[]"},
		{"print r3; r3 = 1; return;", "[3]"},
		{"r3 = r3; return;", "[3]"},
		{"r3 = add 1, r3; return;", "[3]"},
		{"r3 = r4; r4 = r3; return;", "[4]"},
		{"r3 = 1; r3 = r3; print r3; return;", "[]"},
		{"print r3; r3 = 1; print r3; r3 = 2; return;", "[3]"},
		{"r3 = call h(r3, 1; a0); return;", "[3]"},
		{"r3 = load a0[r3]; return;", "[3]"},
		{"r3 = load a0[0]; r4 = get c0; r5 = call h(r3, r4; a0); r6 = add r5, 1; r7 = r6; print r7; return;", "[]"},
		{"r0 = 1; print r0; print r1; r1 = 1; return;", "[1]"},
		{"call h(r3, r4; a0); r3 = 1; return;", "[3 4]"},
	} {
		expectLive(t, c.code, around("b0: "+c.code), "["+c.in+"]", "[[]]")
	}
}

// P11.4: an end reads its operand after all instructions; one that has none reads nothing.
func TestLiveEnds(t *testing.T) {
	for _, c := range []struct{ name, code, in, out string }{
		{"a branch", "b0: branch r4, b1, b2; b1: return; b2: trap;", "[[4] [] []]", "[[] [] []]"},
		{"a branch on what the block defines", "b0: r4 = r3; branch r4, b1, b1; b1: return;", "[[3] []]", "[[] []]"},
		{"a branch on a number", "b0: branch 4, b1, b1; b1: return;", "[[] []]", "[[] []]"},
		{"a branch on what is read behind it as well", "b0: branch r4, b1, b2; b1: print r4; return; b2: return;", "[[4] [4] []]", "[[4] [] []]"},
		{"a jump", "b0: jump b1; b1: return;", "[[] []]", "[[] []]"},
	} {
		expectLive(t, c.name, around(c.code), c.in, c.out)
	}
	head := "main m; func f params 1 regs 3 result { b0: "
	tail := " } func m params 0 regs 0 { b0: return; }"
	for _, c := range []struct{ code, in string }{
		{"return r2;", "[2]"},
		{"return r0;", "[0]"},
		{"return 2;", "[]"},
		{"trap;", "[]"},
		{"r2 = r1; return r2;", "[1]"},
		{"print r1; return r2;", "[1 2]"},
	} {
		expectLive(t, c.code, head+c.code+tail, "["+c.in+"]", "[[]]")
	}
}

// P11.4: registers that are live from block to block.
func TestLiveAcrossBlocks(t *testing.T) {
	for _, c := range []struct{ name, code, in, out string }{
		{"through a block", "b0: r3 = 1; jump b1; b1: print r4; jump b2; b2: print r3; return;", "[[4] [3 4] [3]]", "[[3 4] [3] []]"},
		{"defined on one way", "b0: branch 0, b1, b2; b1: r3 = 1; jump b3; b2: jump b3; b3: print r3; return;", "[[3] [] [3] [3]]", "[[3] [3] [3] []]"},
		{"read on one way", "b0: r3 = 1; branch 0, b1, b2; b1: print r3; return; b2: r3 = 2; print r3; return;", "[[] [3] []]", "[[3] [] []]"},
		{"read before it is defined again", "b0: jump b1; b1: print r3; r3 = 1; branch 0, b1, b2; b2: return;", "[[3] [3] []]", "[[3] [3] []]"},
		{"around a loop", "b0: r3 = 1; jump b1; b1: branch r0, b2, b3; b2: jump b1; b3: print r3; return;", "[[0] [0 3] [0 3] [3]]", "[[0 3] [0 3] [0 3] []]"},
		{"from the end of a loop to its head", "b0: jump b1; b1: print r3; jump b2; b2: r3 = 1; branch 0, b1, b3; b3: return;", "[[3] [3] [] []]", "[[3] [] [3] []]"},
		{"from the higher block to the lower one", "b0: jump b2; b1: print r3; return; b2: jump b1;", "[[3] [3] [3]]", "[[3] [] [3]]"},
		{"for ever, read", "b0: jump b1; b1: print r3; jump b1;", "[[3] [3]]", "[[3] [3]]"},
		{"for ever, not read", "b0: r3 = 1; jump b1; b1: jump b1;", "[[] []]", "[[] []]"},
		{"defined and never read", "b0: r3 = 1; jump b1; b1: r3 = 2; return;", "[[] []]", "[[] []]"},
		{"a block that is not reached reads", "b0: r3 = 1; jump b2; b1: print r4; jump b2; b2: print r3; return;", "[[] [3 4] [3]]", "[[3] [3] []]"},
		{"blocks that are not reached, in a loop", "b0: return; b1: jump b2; b2: print r3; branch r4, b1, b2;", "[[] [3 4] [3 4]]", "[[] [3 4] [3 4]]"},
	} {
		expectLive(t, c.name, around(c.code), c.in, c.out)
	}
}

// P11.4: what phis read is live at the ends of the blocks to which it belongs, what they define not at the beginning of theirs.
func TestLivePhis(t *testing.T) {
	for _, c := range []struct{ name, code, in, out string }{
		{"each one at its own end", "b0: branch 0, b1, b2; b1: jump b3; b2: jump b3; b3: r3 = phi b1: r4, b2: r5; return;", "[[4 5] [4] [5] []]", "[[4 5] [4] [5] []]"},
		{"a number", "b0: jump b1; b1: r3 = phi b0: 4; print r3; return;", "[[] []]", "[[] []]"},
		{"what is defined in the block to which it belongs", "b0: r4 = 1; jump b1; b1: r3 = phi b0: r4; return;", "[[] []]", "[[4] []]"},
		{"what is read is also live at the beginning, if the block reads it", "b0: jump b1; b1: r3 = phi b0: r4; print r4; return;", "[[4] [4]]", "[[4] []]"},
		{"what a phi defines and reads", "b0: jump b1; b1: r3 = phi b0: r3; print r3; return;", "[[3] []]", "[[3] []]"},
		{"what is defined by a phi is read, and defined again", "b0: jump b1; b1: r3 = phi b0: 1; print r3; r3 = add r3, 1; print r3; return;", "[[] []]", "[[] []]"},
		{"what is defined by a phi and live behind the block", "b0: jump b1; b1: r3 = phi b0: 1; jump b2; b2: print r3; return;", "[[] [] [3]]", "[[] [3] []]"},
		{"all are read at the end, before one is written", "b0: jump b1; b1: r3 = phi b0: r5, b1: r4; r4 = phi b0: 2, b1: r3; branch r3, b1, b2; b2: return;", "[[5] [] []]", "[[5] [3 4] []]"},
		{"around a loop", "b0: jump b1; b1: r3 = phi b0: 0, b2: r4; branch r3, b2, b3; b2: r4 = add r3, 1; jump b1; b3: print r3; return;", "[[] [] [3] [3]]", "[[] [3] [4] []]"},
		{"of a block that is not reached", "b0: jump b2; b1: jump b2; b2: r3 = phi b0: r4, b1: r5; return;", "[[4] [5] []]", "[[4] [5] []]"},
		{"with no blocks before", "b0: return; b1: r3 = phi; print r3; print r4; return;", "[[] [4]]", "[[] []]"},
		{"both edges of a branch", "b0: branch r2, b1, b1; b1: r3 = phi b0: r4; return;", "[[2 4] []]", "[[4] []]"},
		{"only one edge of a branch", "b0: branch 0, b1, b2; b1: r3 = phi b0: r4; print r4; return; b2: r4 = phi b0: r5; print r4; return;", "[[4 5] [4] []]", "[[4 5] [] []]"},
		{"two phis of one register", "b0: jump b1; b1: r3 = phi b0: r4; r3 = phi b0: r5; print r3; return;", "[[4 5] []]", "[[4 5] []]"},
		{"parameters", "b0: jump b1; b1: r0 = phi b0: r1; print r0; return;", "[[1] []]", "[[1] []]"},
		{"defined by a phi, and behind it for the next round", "b0: jump b1; b1: r3 = phi b0: 1, b1: r3; r3 = 2; branch 0, b1, b2; b2: return;", "[[] [] []]", "[[] [3] []]"},
	} {
		expectLive(t, c.name, around(c.code), c.in, c.out)
	}
}

// P11.4: all registers that there may be.
func TestLiveMost(t *testing.T) {
	var code strings.Builder
	for r := range api.MaxRegs {
		fmt.Fprintf(&code, "print r%d; ", r)
	}
	module := func(rest string) string {
		return fmt.Sprintf("main f; func f params 0 regs %d { b0: jump b1; b1: %s return; }", api.MaxRegs, rest)
	}
	all := choose(api.MaxRegs, func(int) bool { return true })
	expectLive(t, "all", module(code.String()), fmt.Sprint([][]int{all, all}), fmt.Sprint([][]int{all, nil}))
	for _, r := range []int{0, 1, 31, 32, 63, 64, 127, 128, 192, 255, 256, 298, 299} {
		expectLive(t, "one", module(fmt.Sprintf("print r%d;", r)), fmt.Sprintf("[[%d] [%d]]", r, r), fmt.Sprintf("[[%d] []]", r))
		expectLive(t, "none", module(fmt.Sprintf("r%d = 1; print r%d;", r, r)), "[[] []]", "[[] []]")
	}
}

// P11.4: only the function that is meant is looked at.
func TestLiveOfFunctions(t *testing.T) {
	m := read(t, "main f; func f params 0 regs 2 { b0: print r1; return; } func g params 3 regs 3 result { b0: jump b1; b1: return r2; } func h params 0 regs 0 { b0: return; }")
	for k, want := range []string{"[[1]] [[]]", "[[2] [2]] [[2] []]", "[[]] [[]]"} {
		if in, out := live(t, m, k); fmt.Sprint(in, " ", out) != want {
			t.Errorf("%d: %v %v, want %s", k, in, out, want)
		}
	}
}
