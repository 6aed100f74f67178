package dead_test

import (
	"fmt"
	"strings"
	"testing"

	"cupel/api"
	"cupel/samples"
)

// P15.1, rule 5: blocks that are not reached are left out together, with what belongs to them in phis.
func TestBlocks(t *testing.T) {
	samples.ExpectSoundRows(t, pass, []row{
		{"the last one", "0 regs 0", "b0: return; b1: return;", "b0: return;", "b1:end/5"},
		{"the first ones", "0 regs 0", "b0: jump b3; b1: print 1; jump b2; b2: print 2; return; b3: print 3; return;", "b0: jump b1; b1: print 3; return;", "b1:end/5"},
		{"several", "1 regs 1", "b0: branch r0, b5, b2; b1: print 1; jump b2; b2: print 2; return; b3: print 3; jump b4; b4: print 4; jump b3; b5: print 5; jump b2; b6: trap;", "b0: branch r0, b2, b1; b1: print 2; return; b2: print 5; jump b1;", "b1:end/5"},
		{"not the first one", "1 regs 1", "b0: branch r0, b1, b3; b1: return; b2: jump b2; b3: trap;", "b0: branch r0, b1, b2; b1: return; b2: trap;", "b2:end/5"},
		{"one block twice", "1 regs 1", "b0: branch r0, b2, b2; b1: return; b2: jump b4; b3: branch r0, b3, b4; b4: return;", "b0: branch r0, b1, b1; b1: jump b2; b2: return;", "b1:end/5"},
		{"phis", "2 regs 4 result", "b0: branch r0, b2, b4; b1: jump b2; b2: r2 = phi b0: r1, b1: 4, b3: 5; return r2; b3: branch 1, b2, b4; b4: r3 = phi b0: 6, b3: 7; return r3;", "b0: branch r0, b1, b2; b1: r2 = phi b0: r1; return r2; b2: r3 = phi b0: 6; return r3;", "b1:end/5"},
		{"phis of blocks that get other numbers", "2 regs 3 result", "b0: branch r0, b2, b4; b1: jump b5; b2: jump b5; b3: jump b5; b4: jump b5; b5: r2 = phi b1: 1, b2: r0, b3: 3, b4: r1; return r2;", "b0: branch r0, b1, b2; b1: jump b3; b2: jump b3; b3: r2 = phi b1: r0, b2: r1; return r2;", "b1:end/5"},
		{"a phi of a loop", "1 regs 3 result", "b0: jump b2; b1: jump b2; b2: r1 = phi b0: r0, b1: 3, b2: r2; r2 = sub r1, 1; branch r2, b2, b3; b3: return r1;", "b0: jump b1; b1: r1 = phi b0: r0, b1: r2; r2 = sub r1, 1; branch r2, b1, b2; b2: return r1;", "b1:end/5"},
		{"a phi without operands", "0 regs 2", "b0: return; b1: r0 = phi; r1 = phi; print r1; return;", "b0: return;", "b1:0 b1:end/5"},
		same("both ways of a branch by a constant", "0 regs 0", "b0: branch 1, b1, b2; b1: return; b2: return;"),
		same("a loop without an end", "1 regs 1", "b0: branch r0, b1, b2; b1: jump b1; b2: return;"),
		same("one", "0 regs 0", "b0: return;"),
	})
}

// P15.1: the rules 1 to 4 hold in blocks that are not reached as well, which count until they are left out.
func TestNotReached(t *testing.T) {
	samples.ExpectSoundRows(t, pass, []row{
		{"instructions", "1 regs 3", "b0: return; b1: r1 = add r0, 1; check 0, 1; put c0 = 1; put c0 = 2; store a0[0] = 1; r2 = r1; return;", "b0: return;", "b1:5 b1:4/3 b1:2/4 b1:1/2 b1:0 b1:end/5"},
		{"a use", "1 regs 2", "b0: r1 = add r0, 1; return; b1: print r1; return;", "b0: return;", "b1:end/5 b0:0"},
		{"a use by an end", "1 regs 2 result", "b0: r1 = add r0, 1; return r0; b1: return r1;", "b0: return r0;", "b1:end/5 b0:0"},
		{"a use by a phi of a block that is reached", "1 regs 3 result", "b0: r1 = add r0, 1; jump b2; b1: jump b2; b2: r2 = phi b0: r0, b1: r1; return r2;", "b0: jump b1; b1: r2 = phi b0: r0; return r2;", "b1:end/5 b0:0"},
		{"a use before the definition", "1 regs 3", "b0: return; b1: print r1; r1 = add r1, 1; r2 = r1; return;", "b0: return;", "b1:2 b1:end/5"},
		{"what is used by itself", "1 regs 2", "b0: return; b1: r1 = add r1, 1; return;", "b0: return;", "b1:end/5"},
		{"a load", "1 regs 2", "b0: store a0[0] = r0; return; b1: r1 = load a0[0]; print r1; return;", "b0: return;", "b1:end/5 b0:0/3"},
		{"a call", "1 regs 1", "b0: store a0[0] = r0; print 1; return; b1: call g(0, 1; a0); return;", "b0: print 1; return;", "b1:end/5 b0:0/3"},
		{"a register, through its store", "0 regs 2", "b0: jump b2; b1: r0 = load a1[0]; print r0; return; b2: r1 = get c0; store a1[0] = r1; check 1, 2; return;", "b0: jump b1; b1: return;", "b2:2/2 b1:end/5 b1:1/3 b1:0"},
	})
}

// P15.1: the last block first, in each the last instruction first; then rule 5; sweeps until nothing is left.
func TestOrder(t *testing.T) {
	samples.ExpectSoundRows(t, pass, []row{
		{"all rules", "1 regs 6", "b0: r1 = 1; put c0 = 1; put c0 = 2; branch r0, b1, b3; b1: r2 = get c1; check 1, 2; jump b3; b2: r3 = 3; print r1; jump b3; b3: store a0[0] = 1; r4 = load a2[0]; r5 = div r4, 0; return;", "b0: put c0 = 2; branch r0, b1, b2; b1: jump b2; b2: r4 = load a2[0]; r5 = div r4, 0; return;", "b3:0/3 b2:0 b1:1/2 b1:0 b0:1/4 b2:end/5 b0:0"},
		{"numbers and not ways", "1 regs 4", "b0: r1 = 1; jump b3; b1: r2 = r3; jump b2; b2: return; b3: r3 = r0; jump b1;", "b0: jump b3; b1: jump b2; b2: return; b3: jump b1;", "b1:0 b0:0 b3:0"},
		{"indices move up", "1 regs 5", "b0: r1 = 1; print 1; r2 = 2; r3 = 3; print 2; r4 = 4; return;", "b0: print 1; print 2; return;", "b0:5 b0:3 b0:2 b0:0"},
		same("nothing", "0 regs 0", "b0: return;"),
	})
}

// P15.1: the first so many applications.
func TestMost(t *testing.T) {
	pass.ExpectSteps(t, "1 regs 4", []string{
		"b0: r1 = get c0; store a0[0] = r1; check 0, 1; jump b2; b1: r2 = load a0[0]; print r2; return; b2: put c0 = 1; put c0 = 2; r3 = r0; return;",
		"b0: r1 = get c0; store a0[0] = r1; check 0, 1; jump b2; b1: r2 = load a0[0]; print r2; return; b2: put c0 = 1; put c0 = 2; return;",
		"b0: r1 = get c0; store a0[0] = r1; check 0, 1; jump b2; b1: r2 = load a0[0]; print r2; return; b2: put c0 = 2; return;",
		"b0: r1 = get c0; store a0[0] = r1; jump b2; b1: r2 = load a0[0]; print r2; return; b2: put c0 = 2; return;",
		"b0: r1 = get c0; store a0[0] = r1; jump b1; b1: put c0 = 2; return;",
		"b0: r1 = get c0; jump b1; b1: put c0 = 2; return;",
		"b0: jump b1; b1: put c0 = 2; return;",
	}, "b2:2 b2:0/4 b0:2/2 b1:end/5 b0:1/3 b0:0")
}

// P15.1: as many applications as there can be: 400 instructions, and the blocks.
func TestAllLeftOut(t *testing.T) {
	before, made := "b0: "+strings.Repeat("check 1, 2; put c0 = 1; ", 150)+"put c0 = 1; return; b1: "+strings.Repeat("store a1[r0] = 3; ", 99)+"return;", ""
	for i := range 99 {
		made += fmt.Sprintf("b1:%d/3 ", 98-i)
	}
	for i := range 300 {
		made += fmt.Sprintf("b0:%d/%d ", 299-i, 4-2*(i%2))
	}
	samples.ExpectSoundRows(t, pass, []row{{"400", "1 regs 1", before, "b0: put c0 = 1; return;", made + "b1:end/5"}})
	samples.ExpectRows(t, pass, api.Limit{Most: 399}, []row{{"without the blocks", "1 regs 1", before, "b0: put c0 = 1; return; b1: return;", made}})
}

// P15.1: one function of a module; others stay as they are.
func TestOtherFunctions(t *testing.T) {
	const text = "cell c = 1; main h; func f params 1 regs 2 { b0: %s return; } func g params 0 regs 3 { local[4]; b0: %s return; } func h params 0 regs 1 { b0: r0 = 1; call f(r0); call g(); r0 = 1; return; }"
	pass.ExpectEach(t, text, samples.Part{Before: "r1 = r0;", Made: "b0:0"}, samples.Part{Before: "check 0, 2; store a0[1] = 1; put c0 = 3; put c0 = 4;", After: "put c0 = 4;", Made: "b0:2/4 b0:1/3 b0:0/2"})
	pass.ExpectError(t, samples.Read(t, strings.ReplaceAll(text, "%s", "")), 2, samples.All(), api.ErrDown)
}
