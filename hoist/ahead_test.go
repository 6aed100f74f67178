package hoist_test

import (
	"testing"

	"cupel/samples"
)

// P17.1, rule 1: a block ahead of a loop that one block enters otherwise than by a jump.
func TestOneWayIn(t *testing.T) {
	samples.ExpectSoundRows(t, pass, []row{
		{"a branch", "1 regs 2", "b0: branch r0, b1, b2; b1: r1 = 5; print r1; branch r0, b1, b2; b2: return;", "b0: branch r0, b3, b2; b1: print r1; branch r0, b1, b2; b2: return; b3: r1 = 5; jump b1;", "b1:end/1 b1:0/2"},
		{"the other way of one", "1 regs 2", "b0: branch r0, b2, b1; b1: r1 = 5; print r1; branch r0, b1, b2; b2: return;", "b0: branch r0, b2, b3; b1: print r1; branch r0, b1, b2; b2: return; b3: r1 = 5; jump b1;", "b1:end/1 b1:0/2"},
		{"both ways of one", "1 regs 2", "b0: branch r0, b1, b1; b1: r1 = 5; print r1; branch r0, b1, b2; b2: return;", "b0: branch r0, b3, b3; b1: print r1; branch r0, b1, b2; b2: return; b3: r1 = 5; jump b1;", "b1:end/1 b1:0/2"},
		{"phis", "2 regs 6", "b0: branch r1, b1, b2; b1: r2 = phi b0: 3, b1: r4; r3 = phi b0: r1, b1: r2; r4 = sub r2, 1; r5 = add r0, r1; print r5; print r3; branch r4, b1, b2; b2: return;", "b0: branch r1, b3, b2; b1: r2 = phi b1: r4, b3: 3; r3 = phi b1: r2, b3: r1; r4 = sub r2, 1; print r5; print r3; branch r4, b1, b2; b2: return; b3: r5 = add r0, r1; jump b1;", "b1:end/1 b1:3/2"},
		{"a phi of the block behind", "1 regs 5 result", "b0: branch r0, b1, b2; b1: r1 = phi b0: 2, b1: r2; r2 = sub r1, 1; r3 = 9; print r3; branch r2, b1, b2; b2: r4 = phi b0: 7, b1: r3; return r4;", "b0: branch r0, b3, b2; b1: r1 = phi b1: r2, b3: 2; r2 = sub r1, 1; print r3; branch r2, b1, b2; b2: r4 = phi b0: 7, b1: r3; return r4; b3: r3 = 9; jump b1;", "b1:end/1 b1:2/2"},
		{"of what the block defines that enters", "1 regs 4", "b0: r1 = get c0; branch r1, b1, b2; b1: r2 = mul r1, r1; r3 = load a0[r2]; print r3; branch r0, b1, b2; b2: return;", "b0: r1 = get c0; branch r1, b3, b2; b1: print r3; branch r0, b1, b2; b2: return; b3: r2 = mul r1, r1; r3 = load a0[r2]; jump b1;", "b1:end/1 b1:0/2 b1:0/2"},
		same("nothing can be moved: no block", "2 regs 3", "b0: branch r1, b1, b2; b1: r2 = phi b0: r0, b1: r1; print r2; branch r2, b1, b2; b2: return;"),
	})
}

// P17.1, rule 1: a block ahead of a loop that several blocks enter, with phis for what they bring.
func TestSeveralWaysIn(t *testing.T) {
	samples.ExpectSoundRows(t, pass, []row{
		{"two jumps, no phi", "1 regs 2", "b0: branch r0, b1, b2; b1: jump b3; b2: jump b3; b3: r1 = 5; print r1; branch r0, b3, b4; b4: return;", "b0: branch r0, b1, b2; b1: jump b5; b2: jump b5; b3: print r1; branch r0, b3, b4; b4: return; b5: r1 = 5; jump b3;", "b3:end/1 b3:0/2"},
		{"phis, of operands that are equal as well", "2 regs 7 / 2 regs 9", "b0: branch r0, b1, b2; b1: jump b3; b2: branch r1, b3, b4; b3: r2 = phi b1: 4, b2: r1, b3: r4; r3 = phi b1: r0, b2: r0, b3: r2; r4 = sub r2, 1; r5 = 8; print r5; print r3; branch r4, b3, b4; b4: return;", "b0: branch r0, b1, b2; b1: jump b5; b2: branch r1, b5, b4; b3: r2 = phi b3: r4, b5: r7; r3 = phi b3: r2, b5: r8; r4 = sub r2, 1; print r5; print r3; branch r4, b3, b4; b4: return; b5: r7 = phi b1: 4, b2: r1; r8 = phi b1: r0, b2: r0; r5 = 8; jump b3;", "b3:end/1 b3:3/2"},
		{"three, a branch with both ways", "2 regs 5 / 2 regs 6", "b0: branch r0, b1, b2; b1: branch r1, b3, b4; b2: branch r1, b3, b3; b3: r2 = phi b1: 1, b2: 2, b3: r3, b4: r0; r3 = sub r2, 1; r4 = xor r0, r1; print r4; print r2; branch r3, b3, b5; b4: jump b3; b5: return;", "b0: branch r0, b1, b2; b1: branch r1, b6, b4; b2: branch r1, b6, b6; b3: r2 = phi b3: r3, b6: r5; r3 = sub r2, 1; print r4; print r2; branch r3, b3, b5; b4: jump b6; b5: return; b6: r5 = phi b1: 1, b2: 2, b4: r0; r4 = xor r0, r1; jump b3;", "b3:end/1 b3:2/2"},
		{"latches with lower and with higher numbers", "2 regs 7 / 2 regs 8", "b0: branch r0, b2, b4; b1: r4 = sub r2, 1; branch r4, b3, b6; b2: jump b3; b3: r2 = phi b1: r4, b2: 5, b4: r1, b5: r5; r3 = 6; print r3; r6 = and r2, 1; branch r6, b1, b5; b4: jump b3; b5: r5 = sub r2, 2; branch r5, b3, b6; b6: return;", "b0: branch r0, b2, b4; b1: r4 = sub r2, 1; branch r4, b3, b6; b2: jump b7; b3: r2 = phi b1: r4, b5: r5, b7: r7; print r3; r6 = and r2, 1; branch r6, b1, b5; b4: jump b7; b5: r5 = sub r2, 2; branch r5, b3, b6; b6: return; b7: r7 = phi b2: 5, b4: r1; r3 = 6; jump b3;", "b3:end/1 b3:1/2"},
		{"the next register is the one after all, used or not", "1 regs 30 / 1 regs 31", "b0: branch r0, b1, b2; b1: jump b2; b2: r9 = phi b0: 7, b1: r0, b2: r9; r4 = 5; print r4; print r9; branch r0, b2, b3; b3: return;", "b0: branch r0, b1, b4; b1: jump b4; b2: r9 = phi b2: r9, b4: r30; print r4; print r9; branch r0, b2, b3; b3: return; b4: r30 = phi b0: 7, b1: r0; r4 = 5; jump b2;", "b2:end/1 b2:1/2"},
		{"one that is not reached", "1 regs 4 / 1 regs 5", "b0: jump b1; b1: r1 = phi b0: r0, b1: r2, b3: 7; r2 = sub r1, 1; r3 = 9; print r3; branch r2, b1, b2; b2: return; b3: jump b1;", "b0: jump b4; b1: r1 = phi b1: r2, b4: r4; r2 = sub r1, 1; print r3; branch r2, b1, b2; b2: return; b3: jump b4; b4: r4 = phi b0: r0, b3: 7; r3 = 9; jump b1;", "b1:end/1 b1:2/2"},
		{"one that is not reached, and reads what it does not know", "1 regs 4 / 1 regs 5", "b0: branch r0, b1, b2; b1: r1 = phi b0: r0, b1: r2, b3: r3; r2 = sub r1, 1; r3 = 9; print r3; branch r2, b1, b2; b2: return; b3: branch r3, b3, b1;", "b0: branch r0, b4, b2; b1: r1 = phi b1: r2, b4: r4; r2 = sub r1, 1; print r3; branch r2, b1, b2; b2: return; b3: branch r3, b3, b4; b4: r4 = phi b0: r0, b3: r3; r3 = 9; jump b1;", "b1:end/1 b1:2/2"},
		{"in another loop", "1 regs 6 / 1 regs 7", "b0: jump b1; b1: r1 = phi b0: 3, b3: r2; r2 = sub r1, 1; branch r2, b2, b4; b2: r3 = phi b1: 2, b2: r4, b4: r2; r4 = sub r3, 1; r5 = mul r0, 5; print r5; branch r4, b2, b3; b3: branch r2, b1, b5; b4: jump b2; b5: return;", "b0: r5 = mul r0, 5; jump b1; b1: r1 = phi b0: 3, b3: r2; r2 = sub r1, 1; branch r2, b6, b4; b2: r3 = phi b2: r4, b6: r6; r4 = sub r3, 1; print r5; branch r4, b2, b3; b3: branch r2, b1, b5; b4: jump b6; b5: return; b6: r6 = phi b1: 2, b4: r2; jump b2;", "b2:end/1 b2:2/2 b6:1/2"},
	})
}
