package ssa_test

import (
	"fmt"
	"testing"

	"cupel/api"
	"cupel/ir"
)

// P12.4: blocks that are not reached are left out, with what belongs to them in phis.
func TestTidyNotReached(t *testing.T) {
	tidy.expect(t, all(), []row{
		{"nothing to do", "0", "0", "b0: return;", "0", "b0: return;"},
		{"one", "0", "1", "b0: return; b1: print r0; trap;", "0", "b0: return;"},
		{"a loop of its own", "0", "1", "b0: print 1; return; b1: jump b2; b2: jump b1;", "0", "b0: print 1; return;"},
		{"in phis", "0", "1", "b0: branch 5, b2, b4; b1: jump b4; b2: jump b4; b3: jump b4; b4: r0 = phi b0: 1, b1: 2, b2: 3, b3: 4; print r0; return;", "1", "b0: branch 5, b1, b2; b1: jump b2; b2: r0 = phi b0: 1, b1: 3; print r0; return;"},
		{"in a phi with one that is left", "0", "1", "b0: jump b2; b1: jump b2; b2: r0 = phi b0: 3, b1: 4; return;", "1", "b0: r0 = 3; return;"},
		{"registers of them", "0", "3", "b0: r2 = r1; return; b1: print r0; return;", "2", "b0: r1 = r0; return;"},
	})
}

// P12.4: blocks are joined.
func TestTidyJoins(t *testing.T) {
	tidy.expect(t, all(), []row{
		{"two", "0", "0", "b0: print 1; jump b1; b1: print 2; return;", "0", "b0: print 1; print 2; return;"},
		{"in any order", "0", "0", "b0: print 1; jump b3; b1: print 2; jump b2; b2: trap; b3: print 4; jump b1;", "0", "b0: print 1; print 4; print 2; trap;"},
		{"ends", "1=", "1", "b0: jump b1; b1: return r0;", "1", "b0: return r0;"},
		{"branches", "1", "1", "b0: jump b3; b1: print 1; return; b2: return; b3: branch r0, b2, b1;", "1", "b0: branch r0, b1, b2; b1: return; b2: print 1; return;"},
		{"not two before", "0", "0", "b0: branch 1, b1, b2; b1: print 1; jump b2; b2: print 2; return;", "0", "b0: branch 1, b1, b2; b1: print 1; jump b2; b2: print 2; return;"},
		{"not after a branch", "0", "0", "b0: branch 1, b1, b1; b1: print 2; return;", "0", "b0: branch 1, b1, b1; b1: print 2; return;"},
		{"after one that is not reached is left out", "0", "0", "b0: print 0; jump b1; b1: return; b2: jump b1;", "0", "b0: print 0; return;"},
		{"not with itself", "0", "0", "b0: branch 1, b1, b2; b1: print 1; jump b1; b2: return;", "0", "b0: branch 1, b1, b2; b1: print 1; jump b1; b2: return;"},
		{"not the head of a loop", "0", "0", "b0: print 0; jump b1; b1: print 1; jump b1;", "0", "b0: print 0; jump b1; b1: print 1; jump b1;"},
		{"a loop of two", "0", "0", "b0: jump b1; b1: print 1; jump b2; b2: print 2; jump b1;", "0", "b0: jump b1; b1: print 1; print 2; jump b1;"},
		{"a loop of two that began with the other one", "0", "0", "b0: jump b2; b1: print 1; jump b2; b2: print 2; jump b1;", "0", "b0: jump b1; b1: print 2; print 1; jump b1;"},
		{"several", "0", "0", "b0: branch 1, b4, b2; b1: print 1; jump b3; b2: print 2; jump b1; b3: trap; b4: print 4; jump b5; b5: print 5; return;", "0", "b0: branch 1, b1, b2; b1: print 4; print 5; return; b2: print 2; print 1; trap;"},
	})
}

// P12.4: joined blocks and phis.
func TestTidyJoinsPhis(t *testing.T) {
	tidy.expect(t, all(), []row{
		{"copies", "2", "5", "b0: print 1; jump b1; b1: r2 = phi b0: r1; r3 = phi b0: 7; r4 = phi b0: r0; print r3; return;", "5", "b0: print 1; r2 = r1; r3 = 7; r4 = r0; print r3; return;"},
		{"phis of the first one stay", "0", "2", "b0: branch 1, b1, b2; b1: jump b2; b2: r0 = phi b0: 1, b1: 2; print 3; jump b3; b3: r1 = phi b2: r0; print r1; return;", "2", "b0: branch 1, b1, b2; b1: jump b2; b2: r0 = phi b0: 1, b1: 2; print 3; r1 = r0; print r1; return;"},
		{"named in phis", "0", "2", "b0: branch 1, b1, b2; b1: jump b3; b2: r1 = 1; jump b4; b3: r0 = 2; jump b5; b4: jump b5; b5: r1 = phi b3: r0, b4: r1; print r1; return;", "2", "b0: branch 1, b1, b3; b1: r0 = 2; jump b2; b2: r1 = phi b1: r0, b3: r1; print r1; return; b3: r1 = 1; jump b2;"},
		{"named in phis of the first one", "0", "2", "b0: jump b1; b1: r0 = phi b0: 5, b3: r1; print r0; jump b2; b2: r1 = add r0, 1; jump b3; b3: jump b1;", "2", "b0: jump b1; b1: r1 = phi b0: 5, b1: r0; print r1; r0 = add r1, 1; jump b1;"},
		{"one that copies itself", "0", "1", "b0: jump b1; b1: r0 = phi b0: r0; return;", "1", "b0: r0 = r0; return;"},
		{"an operand that a later phi defines", "0", "2", "b0: jump b1; b1: r0 = phi b0: r1; r1 = phi b0: 3; print r1; return;", "2", "b0: r1 = r0; r0 = 3; print r0; return;"},
		{"the same register twice", "0", "1", "b0: jump b1; b1: r0 = phi b0: 3; r0 = phi b0: 4; print r0; return;", "1", "b0: r0 = 3; r0 = 4; print r0; return;"},
		// These would not be the same one after the other.
		{"an operand that an earlier phi defines", "0", "2", "b0: r0 = 9; jump b1; b1: r0 = phi b0: 3; r1 = phi b0: r0; print r1; return;", "2", "b0: r0 = 9; jump b1; b1: r0 = phi b0: 3; r1 = phi b0: r0; print r1; return;"},
		{"a ring", "0", "2", "b0: jump b1; b1: r0 = phi b0: r1; r1 = phi b0: r0; return;", "2", "b0: jump b1; b1: r1 = phi b0: r0; r0 = phi b0: r1; return;"},
		{"not the next one but one", "0", "3", "b0: jump b1; b1: r0 = phi b0: 1; r1 = phi b0: 2; r2 = phi b0: r0; print r0; return;", "3", "b0: jump b1; b1: r0 = phi b0: 1; r1 = phi b0: 2; r2 = phi b0: r0; print r0; return;"},
		{"the one behind that", "0", "2", "b0: jump b1; b1: r0 = phi b0: 3; r1 = phi b0: r0; jump b2; b2: r0 = phi b1: r1; print r0; return;", "2", "b0: jump b1; b1: r0 = phi b0: 3; r1 = phi b0: r0; r0 = r1; print r0; return;"},
		{"what an instruction defines is no reason", "0", "2", "b0: r0 = 9; jump b1; b1: r1 = phi b0: r0; r0 = 4; print r1; return;", "2", "b0: r0 = 9; r1 = r0; r0 = 4; print r1; return;"},
	})
}

// P12.4: blocks are numbered as they are entered, depth first, To before Else.
func TestTidyNumbersBlocks(t *testing.T) {
	tidy.expect(t, all(), []row{
		{"To first", "0", "0", "b0: branch 1, b2, b1; b1: print 1; return; b2: print 2; return;", "0", "b0: branch 1, b1, b2; b1: print 2; return; b2: print 1; return;"},
		{"depth first", "0", "0", "b0: branch 1, b1, b2; b1: branch 2, b4, b3; b2: branch 3, b3, b4; b3: print 3; return; b4: print 4; return;", "0", "b0: branch 1, b1, b4; b1: branch 2, b2, b3; b2: print 4; return; b3: print 3; return; b4: branch 3, b3, b2;"},
		{"Else of the first one after all behind To", "0", "0", "b0: branch 1, b3, b1; b1: print 1; branch 1, b3, b2; b2: trap; b3: print 3; branch 3, b1, b2;", "0", "b0: branch 1, b1, b2; b1: print 3; branch 3, b2, b3; b2: print 1; branch 1, b1, b3; b3: trap;"},
		{"phis in order again", "0", "1", "b0: branch 1, b3, b1; b1: branch 2, b4, b2; b2: jump b4; b3: branch 3, b2, b4; b4: r0 = phi b1: 1, b2: 2, b3: 3; print r0; return;", "1", "b0: branch 1, b1, b4; b1: branch 3, b2, b3; b2: jump b3; b3: r0 = phi b1: 3, b2: 2, b4: 1; print r0; return; b4: branch 2, b3, b2;"},
	})
}

// P12.4: registers are numbered as they occur.
func TestTidyNumbersRegisters(t *testing.T) {
	tidy.expect(t, all(), []row{
		{"operands before what is defined", "0", "9", "b0: r8 = r7; r6 = add r5, r4; r3 = sub r2, r6; return;", "7", "b0: r1 = r0; r4 = add r2, r3; r6 = sub r5, r4; return;"},
		{"parameters", "3", "9", "b0: r8 = r2; print r7; r1 = r8; return;", "5", "b0: r3 = r2; print r4; r1 = r3; return;"},
		{"none used", "3", "9", "b0: return;", "3", "b0: return;"},
		{"all kinds", "1", "12", "b0: r11 = get c1; store a0[r9] = r8; check r7, r8; r6 = load a1[r5]; put c1 = r4; r3 = call g(r2, r1; a0); call g(r10, 5; a0); print r11; return;", "12", "b0: r1 = get c1; store a0[r2] = r3; check r4, r3; r6 = load a1[r5]; put c1 = r7; r10 = call g(r8, r9; a0); call g(r11, 5; a0); print r1; return;"},
		{"ends", "0=", "5", "b0: branch r4, b2, b1; b1: return r3; b2: return r2;", "3", "b0: branch r0, b1, b2; b1: return r1; b2: return r2;"},
		{"an end after its block", "0=", "5", "b0: r4 = 1; branch r3, b2, b1; b1: return r2; b2: r2 = r4; return r1;", "4", "b0: r0 = 1; branch r1, b1, b2; b1: r2 = r0; return r3; b2: return r2;"},
		{"ends without operands", "0", "5", "b0: branch 1, b1, b2; b1: trap; b2: r4 = 1; return;", "1", "b0: branch 1, b1, b2; b1: trap; b2: r0 = 1; return;"},
		{"phis", "0", "9", "b0: branch 1, b2, b1; b1: jump b3; b2: jump b3; b3: r8 = phi b1: r7, b2: r6; r5 = phi b1: r8, b2: r4; return;", "5", "b0: branch 1, b1, b3; b1: jump b2; b2: r2 = phi b1: r0, b3: r1; r4 = phi b1: r3, b3: r2; return; b3: jump b2;"},
		{"block by block as they are numbered", "0", "3", "b0: branch 1, b2, b1; b1: r0 = 1; return; b2: r1 = 2; return;", "2", "b0: branch 1, b1, b2; b1: r0 = 2; return; b2: r1 = 1; return;"},
	})
}

// P12.4: a long function may be tidied; and all of it may be one block in the end.
func TestTidyLong(t *testing.T) {
	body, joined := "", ""
	for b := range 59 {
		body += fmt.Sprintf("b%d: print %d; jump b%d; ", b, b, b+1)
		joined += fmt.Sprintf("print %d; ", b)
	}
	code := repeated("r299 = r298; ", 341)
	tidy.expect(t, all(), []row{{"a chain", "0", "300", body + "b59: " + code + "return;", "2", "b0: " + joined + repeated("r1 = r0; ", 341) + "return;"}})
	for most := 1; most < 4; most++ {
		m := of(t, "params 8 regs 300", "b0: return;")
		if made := tidy.make(t, m, 0, api.Limit{Most: most, Faults: []int{1, 2, 24}}); !ir.Same(made, of(t, "params 8 regs 8", "b0: return;")) {
			t.Errorf("%s", text(made))
		}
	}
}
