package ssa_test

import (
	"testing"

	"cupel/api"
	"cupel/ssa"
)

// form is a function, and whether it is in static single assignment form.
type form struct {
	head, body string
	want       bool
}

func expectForms(t *testing.T, list []form) {
	t.Helper()
	for _, c := range list {
		want := api.ErrDown
		if c.want {
			want = api.OK
		}
		if e := ssa.Check(of(t, c.head, c.body), 0); e != want {
			t.Errorf("%s { %s }: error %d, want %d", c.head, c.body, e, want)
		}
	}
}

// P12.1: each register is defined by at most one instruction, also in blocks that are not reached, and parameters by none.
func TestDefinedOnce(t *testing.T) {
	const head = "params 0 regs 3"
	expectForms(t, []form{
		{"params 0 regs 0", "b0: return;", true},
		{head, "b0: r0 = 1; r2 = 1; r1 = 1; return;", true},
		{head, "b0: r0 = 1; r0 = 1; return;", false},
		{head, "b0: r0 = 1; jump b1; b1: r0 = get c0; return;", false},
		{head, "b0: branch 1, b1, b2; b1: r0 = 1; return; b2: r0 = 1; return;", false},
		{head, "b0: r0 = 1; return; b1: r0 = 1; return;", false},
		{head, "b0: return; b1: r0 = 1; r0 = 1; return;", false},
		{head, "b0: return; b1: r0 = 1; jump b2; b2: r0 = phi b1: 1; return;", false},
		{head, "b0: jump b1; b1: r0 = phi b0: 1; r0 = phi b0: 1; return;", false},
		{head, "b0: jump b1; b1: r0 = phi b0: 1; r1 = phi b0: 1; return;", true},
		{head, "b0: jump b1; b1: r0 = phi b0: 1; r0 = add 1, 2; return;", false},
		{"params 2 regs 3", "b0: r2 = r0; print r1; return;", true},
		{"params 2 regs 3", "b0: r0 = 1; return;", false},
		{"params 2 regs 3", "b0: r1 = r1; return;", false},
		{"params 2 regs 3", "b0: jump b1; b1: r1 = phi b0: 1; return;", false},
		{"params 2 regs 3", "b0: return; b1: r1 = 2; return;", false},
		{"params 2 regs 3", "b0: return; b1: r2 = 2; return;", true},
	})
}

// P12.1: what is defined comes before its operands in the same block, or in a block that dominates.
func TestDefinedBefore(t *testing.T) {
	const head = "params 0 regs 4"
	expectForms(t, []form{
		{head, "b0: print 1; return;", true},
		{head, "b0: print r3; return;", false},
		{head, "b0: r3 = 1; print r3; return;", true},
		{head, "b0: print r3; r3 = 1; return;", false},
		{head, "b0: r3 = r3; return;", false},
		{head, "b0: r0 = 1; r3 = r0; jump b1; b1: r1 = add r3, r0; return;", true},
		{head, "b0: jump b2; b1: print r0; return; b2: r0 = 1; jump b1;", true},
		{head, "b0: r0 = 1; branch r0, b1, b2; b1: print r0; jump b3; b2: print r0; jump b3; b3: print r0; return;", true},
		{head, "b0: branch 1, b1, b2; b1: r0 = 1; print r0; jump b3; b2: jump b3; b3: print r0; return;", false},
		{head, "b0: branch 1, b1, b2; b1: r0 = 1; jump b3; b2: print r0; jump b3; b3: return;", false},
		{head, "b0: branch 1, b1, b2; b1: r0 = 1; jump b3; b2: jump b3; b3: return;", true},
		// It comes before in all runs, but not in a block that dominates.
		{head, "b0: branch 0, b1, b2; b1: jump b2; b2: branch 0, b3, b4; b3: r0 = 1; return; b4: print r0; return;", false},
		{head, "b0: jump b1; b1: print r0; r0 = 1; branch r0, b1, b2; b2: return;", false},
		{head, "b0: jump b1; b1: r0 = 1; branch r0, b1, b2; b2: print r0; return;", true},
		{head, "b0: jump b1; b1: branch 1, b2, b3; b2: print r0; jump b1; b3: r0 = 1; jump b1;", false},
		{head, "b0: jump b1; b1: r0 = 1; branch 1, b2, b3; b2: print r0; jump b1; b3: print r0; jump b1;", true},
		{"params 2 regs 3", "b0: branch r1, b1, b2; b1: print r0; return; b2: print r1; return;", true},
		// In the same block it has to come before, even if the block dominates itself and is in a loop.
		{head, "b0: jump b1; b1: r1 = phi b0: 1, b1: r0; print r0; r0 = 1; jump b1;", false},
	})
}

// P12.1: blocks that are not reached may use anything, but what they define is not defined elsewhere.
func TestNotReached(t *testing.T) {
	const head = "params 0 regs 4"
	expectForms(t, []form{
		{head, "b0: return; b1: print r0; r1 = add r2, r1; branch r3, b2, b1; b2: r0 = phi b1: r0; print r2; return;", true},
		{head, "b0: print r0; return; b1: r0 = 1; return;", false},
		{head, "b0: jump b2; b1: r0 = 1; jump b2; b2: print r0; return;", false},
		{head, "b0: jump b2; b1: r0 = 1; jump b2; b2: r1 = phi b0: 1, b1: r0; return;", true},
		{head, "b0: jump b2; b1: r0 = 1; jump b2; b2: r1 = phi b0: r0, b1: r0; return;", false},
		{head, "b0: jump b2; b1: jump b2; b2: r1 = phi b0: 1, b1: r3; return;", true},
		{head, "b0: jump b2; b1: jump b2; b2: r1 = phi b0: 1, b1: r1; return;", true},
		{head, "b0: jump b2; b1: jump b2; b2: r1 = phi b0: r1, b1: 1; return;", false},
		{head, "b0: return; b1: jump b2; b2: r1 = phi b1: r1; return;", true},
	})
}

// P12.1: operands of phis are asked for at the end of the block from which one comes.
func TestPhiOperands(t *testing.T) {
	const head = "params 1 regs 4"
	expectForms(t, []form{
		{head, "b0: r1 = 1; jump b1; b1: r2 = phi b0: r1; return;", true},
		{head, "b0: jump b1; b1: r1 = 1; jump b2; b2: r2 = phi b1: r1; return;", true},
		{head, "b0: jump b1; b1: r2 = phi b0: r0; return;", true},
		{head, "b0: jump b1; b1: r2 = phi b0: r1; r1 = 1; return;", false},
		{head, "b0: jump b1; b1: r2 = phi b0: r2; return;", false},
		// Another phi of the same block does not help.
		{head, "b0: jump b1; b1: r1 = phi b0: 1; r2 = phi b0: r1; return;", false},
		// But around the loop it does, whatever comes first.
		{head, "b0: jump b1; b1: r1 = phi b0: 1, b1: r2; r2 = phi b0: 1, b1: r1; jump b1;", true},
		{head, "b0: jump b1; b1: r1 = phi b0: 1, b1: r1; jump b1;", true},
		{head, "b0: jump b1; b1: r1 = phi b0: 1, b1: r2; r2 = add r1, 1; jump b1;", true},
		{head, "b0: jump b1; b1: r1 = phi b0: r2, b1: 1; r2 = add r1, 1; jump b1;", false},
		{head, "b0: jump b1; b1: r1 = phi b0: 1, b2: r2; branch 1, b2, b3; b2: r2 = 1; jump b1; b3: print r1; return;", true},
		{head, "b0: jump b1; b1: r1 = phi b0: 1, b2: r2; branch 1, b2, b3; b2: jump b1; b3: r2 = 1; return;", false},
		// The block from which one comes is dominated, this one is not.
		{head, "b0: branch 1, b1, b2; b1: r1 = 1; jump b3; b2: r2 = 2; jump b4; b3: jump b4; b4: r3 = phi b2: r2, b3: r1; return;", true},
		{head, "b0: branch 1, b1, b2; b1: r1 = 1; jump b3; b2: r2 = 2; jump b4; b3: jump b4; b4: r3 = phi b2: r1, b3: r2; return;", false},
		{head, "b0: r1 = 1; branch 1, b1, b2; b1: jump b2; b2: r2 = phi b0: r1, b1: r1; return;", true},
		{head, "b0: branch 1, b1, b2; b1: r1 = 1; jump b2; b2: r2 = phi b0: r1, b1: 1; return;", false},
		{head, "b0: branch 1, b1, b2; b1: r1 = 1; jump b2; b2: r2 = phi b0: 1, b1: r1; return;", true},
	})
}

// P12.1: the operands of each instruction and each end, and nothing else; r3 is not defined.
func TestEachOperand(t *testing.T) {
	const head, result = "params 1 regs 5", "params 1 regs 5 result"
	const local = "local[2]; b0: "
	for _, kind := range []string{"r4 = %", "r4 = add %, 1", "r4 = sub 1, %", "r4 = le r0, %", "check %, 1", "check 1, %", "r4 = load a0[%]", "store a0[%] = 1", "store a0[1] = %", "put c1 = %", "print %", "r4 = call g(%, 1; a0)", "r4 = call g(1, %; a0)", "call g(r0, %; a0)"} {
		for _, o := range []string{"r3", "r0", "7"} {
			expectForms(t, []form{{head, local + filled(kind, o) + "; return;", o != "r3"}})
		}
	}
	expectForms(t, []form{
		{head, "b0: branch r3, b1, b1; b1: return;", false},
		{head, "b0: branch r0, b1, b1; b1: return;", true},
		{result, "b0: return r3;", false},
		{result, "b0: return r0;", true},
		{result, "b0: r3 = 1; return r3;", true},
		// r0 is no parameter here, and fields that are not used have the number 0.
		{"params 0 regs 5", "local[2]; b0: r1 = get c0; call g(1, 2; a0); r2 = call g(1, 2; a0); r3 = load a0[1]; print 1; jump b1; b1: return;", true},
		{"params 0 regs 5", "b0: jump b1; b1: r1 = phi b0: 1; trap;", true},
		{"params 0 regs 5 result", "b0: jump b1; b1: r1 = phi b0: 1; return 1;", true},
	})
}

// filled puts an operand in the place of %.
func filled(kind, operand string) string {
	s := ""
	for _, c := range kind {
		if c == '%' {
			s += operand
		} else {
			s += string(c)
		}
	}
	return s
}

// P12.1: other functions do not matter.
func TestOneFunction(t *testing.T) {
	m := read(t, "main f; func f params 0 regs 1 { b0: return; } func g params 0 regs 1 { b0: print r0; return; } func h params 0 regs 1 { b0: r0 = 1; print r0; return; }")
	for k, want := range []api.Errno{api.OK, api.ErrDown, api.OK, api.ErrArg} {
		check(t, m, k, want)
	}
	check(t, m, -1, api.ErrArg)
}
