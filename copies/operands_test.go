package copies_test

import (
	"testing"

	"cupel/samples"
)

// P14.1, rule 1: the operands of all instructions and ends, in order, each time that they occur.
func TestOperands(t *testing.T) {
	const head = "2 regs 6"
	const first = "b0: r2 = r0; r3 = r1; "
	samples.ExpectSoundRows(t, pass, []row{
		{"a copy", head, first + "r4 = r2; return;", first + "r4 = r0; return;", "b0:2"},
		{"an operation", head, first + "r4 = sub r2, r3; return;", first + "r4 = sub r0, r1; return;", "b0:2 b0:2"},
		{"an operation of a register with itself", head, first + "r4 = sub r3, r3; return;", first + "r4 = sub r1, r1; return;", "b0:2 b0:2"},
		{"the second operand", head, first + "r4 = sub 7, r3; return;", first + "r4 = sub 7, r1; return;", "b0:2"},
		{"a check", head, first + "check r2, r3; return;", first + "check r0, r1; return;", "b0:2 b0:2"},
		{"a load", head, first + "r4 = load a1[r3]; return;", first + "r4 = load a1[r1]; return;", "b0:2"},
		{"a store", head, first + "store a0[r2] = r3; return;", first + "store a0[r0] = r1; return;", "b0:2 b0:2"},
		{"a put", head, first + "put c1 = r3; return;", first + "put c1 = r1; return;", "b0:2"},
		{"a print", head, first + "print r3; return;", first + "print r1; return;", "b0:2"},
		{"a call", head, first + "r4 = call g(r3, r2; a0); return;", first + "r4 = call g(r1, r0; a0); return;", "b0:2 b0:2"},
		{"a call without a result", head, first + "call g(r3, 7; a0); return;", first + "call g(r1, 7; a0); return;", "b0:2"},
		{"a phi", head, first + "branch r1, b1, b2; b1: jump b2; b2: r4 = phi b0: r2, b1: r3; r5 = phi b0: 3, b1: r3; return;", first + "branch r1, b1, b2; b1: jump b2; b2: r4 = phi b0: r0, b1: r1; r5 = phi b0: 3, b1: r1; return;", "b2:0 b2:0 b2:1"},
		{"a branch", head, first + "branch r3, b1, b2; b1: return; b2: return;", first + "branch r1, b1, b2; b1: return; b2: return;", "b0:end"},
		{"a return", head + " result", first + "return r3;", first + "return r1;", "b0:end"},
		same("a return without a result", head, first+"return;"),
		same("a trap", head, first+"trap;"),
		same("a jump", head, first+"jump b1; b1: return;"),
		same("a get", head, first+"r4 = get c0; return;"),
		same("parameters and other instructions", "2 regs 5 result", "b0: r2 = get c0; r3 = load a0[r2]; r4 = call g(r3, r1; a0); print r4; return r0;"),
	})
}

// P14.1, rule 1: a register becomes the operand of its copy, which may be a constant, or that of another copy.
func TestChains(t *testing.T) {
	samples.ExpectSoundRows(t, pass, []row{
		{"a constant", "0 regs 2 result", "b0: r0 = -7; r1 = add r0, r0; return r1;", "b0: r0 = -7; r1 = add -7, -7; return r1;", "b0:1 b0:1"},
		{"a chain", "1 regs 4 result", "b0: r3 = r0; r1 = r3; r2 = r1; return r2;", "b0: r3 = r0; r1 = r0; r2 = r0; return r0;", "b0:1 b0:2 b0:end"},
		{"a copy that comes later in the text", "1 regs 3 result", "b0: jump b2; b1: return r2; b2: r1 = r0; r2 = r1; jump b1;", "b0: jump b2; b1: return r0; b2: r1 = r0; r2 = r0; jump b1;", "b2:1 b1:end"},
		{"a copy of a copy around a loop", "1 regs 5", "b0: jump b1; b1: r1 = phi b0: 0, b1: r3; r2 = add r1, 1; r3 = r2; r4 = lt r3, r0; branch r4, b1, b2; b2: print r3; return;", "b0: jump b1; b1: r1 = phi b0: 0, b1: r2; r2 = add r1, 1; r3 = r2; r4 = lt r2, r0; branch r4, b1, b2; b2: print r2; return;", "b1:0 b1:3 b2:0"},
		{"copies become known together", "1 regs 4 result", "b0: jump b1; b1: r1 = phi b0: r0, b2: r3; branch r1, b2, b3; b2: r2 = r1; r3 = r2; jump b1; b3: return r1;", "b0: jump b1; b1: r1 = r0; branch r0, b2, b3; b2: r2 = r0; r3 = r0; jump b1; b3: return r0;", "b1:0 b1:0 b1:0/2 b1:end b3:end b2:0 b2:1"},
	})
}

// P14.1: blocks that are not reached stay as they are, and so does what belongs to them in phis.
func TestNotReached(t *testing.T) {
	samples.ExpectSoundRows(t, pass, []row{
		same("a block", "1 regs 6 result", "b0: return r0; b1: r1 = r0; r2 = add r1, r0; r3 = add r1, r0; print r2; r4 = get c0; r5 = get c0; check r1, 4; check r1, 4; return r1;"),
		{"an operand of a phi", "1 regs 3 result", "b0: r1 = r0; jump b2; b1: jump b2; b2: r2 = phi b0: r1, b1: r1; return r2;", "b0: r1 = r0; jump b2; b1: jump b2; b2: r2 = phi b0: r0, b1: r1; return r2;", "b2:0"},
		same("one that is different", "1 regs 3 result", "b0: jump b2; b1: jump b2; b2: r1 = phi b0: r0, b1: 4; return r1;"),
		same("one that is not defined", "1 regs 3 result", "b0: jump b2; b1: jump b2; b2: r1 = phi b0: r0, b1: r2; return r1;"),
		{"one that is the same", "1 regs 3 result", "b0: jump b2; b1: jump b2; b2: r1 = phi b0: r0, b1: r0; return r1;", "b0: jump b2; b1: jump b2; b2: r1 = r0; return r0;", "b2:0/2 b2:end"},
		{"one that is the phi", "1 regs 3 result", "b0: jump b2; b1: jump b2; b2: r1 = phi b0: r0, b1: r1; return r1;", "b0: jump b2; b1: jump b2; b2: r1 = r0; return r0;", "b2:0/2 b2:end"},
		same("what is above a block that is not reached", "1 regs 3", "b0: jump b2; b1: r1 = add r0, 1; jump b2; b2: r2 = add r0, 1; print r2; return;"),
	})
}
