package inline_test

import (
	"testing"

	"cupel/api"
	"cupel/samples"
)

// P18.1: the examples of the chapter.
func TestExamples(t *testing.T) {
	expect(t, []row{
		{"a call", "func g params 1 regs 1 result { b0: print r0; return 5; }", "1 { b0: r0 = call g(7); print r0; return;", "2 { b0: r1 = 7; jump b1; b1: print r1; r0 = 5; jump b2; b2: print r0; return;", "b0:0"},
		{"a local array and a second register", "func g params 1 regs 2 result { local[2]; b0: print r0; return 5; }", "1 { b0: r0 = call g(7); print r0; return;", "3 { local[2]; b0: r1 = 7; r2 = 0; store a0[0] = 0; store a0[1] = 0; jump b1; b1: print r1; r0 = 5; jump b2; b2: print r0; return;", "b0:0"},
	})
}

// P18.1: what stands in the place of a call: copies for parameters, then for other registers, then stores; what comes before and behind stays.
func TestBeginning(t *testing.T) {
	const plain = "func g params 2 regs 4 result { b0: print r1; return r3; }"
	const stores = "func g params 1 regs 2 { local[3]; global x; local[1] small; local[2] small; b0: print r0; return; }"
	expect(t, []row{
		{"nothing to begin with", "func g params 0 regs 0 { b0: print 1; return; }", "0 { b0: call g(); return;", "0 { b0: jump b1; b1: print 1; jump b2; b2: return;", "b0:0"},
		{"an empty function", "func g params 0 regs 0 { b0: return; }", "0 { b0: call g(); return;", "0 { b0: jump b1; b1: jump b2; b2: return;", "b0:0"},
		{"arguments, and zeros", plain, "2 { b0: r1 = 6; print 1; r0 = call g(r1, -9); print 2; print r0; return;", "6 { b0: r1 = 6; print 1; r2 = r1; r3 = -9; r4 = 0; r5 = 0; jump b1; b1: print r3; r0 = r5; jump b2; b2: print 2; print r0; return;", "b0:2"},
		{"the result is an argument too", plain, "2 { b0: r1 = 6; r1 = call g(r0, r1); print r1; return;", "6 { b0: r1 = 6; r2 = r0; r3 = r1; r4 = 0; r5 = 0; jump b1; b1: print r3; r1 = r5; jump b2; b2: print r1; return;", "b0:1"},
		{"parameters alone", "func g params 3 regs 3 { b0: print r2; return; }", "1 { b0: r0 = 4; call g(r0, 1, r0); return;", "4 { b0: r0 = 4; r1 = r0; r2 = 1; r3 = r0; jump b1; b1: print r3; jump b2; b2: return;", "b0:1"},
		{"registers that are not used", "func g params 0 regs 3 { b0: return; }", "9 { b0: call g(); return;", "12 { b0: r9 = 0; r10 = 0; r11 = 0; jump b1; b1: jump b2; b2: return;", "b0:0"},
		{"stores", stores, "0 { b0: call g(3); return;", "2 { local[3]; global x; local[1] small; local[2] small; b0: r0 = 3; r1 = 0; store a0[0] = 0; store a0[1] = 0; store a0[2] = 0; store a2[0] = 0; store a3[0] = 0; store a3[1] = 0; jump b1; b1: print r0; jump b2; b2: return;", "b0:0"},
	})
	const both = "func g params 1 regs 3 { local[2]; b0: print r0; return; }"
	const before = "1 { b0: call g(r0); return;"
	expect(t, []row{{"stores are missing", both, before, "4 { local[2]; b0: r1 = r0; r2 = 0; r3 = 0; jump b1; b1: print r1; jump b2; b2: return;", "b0:0"}}, api.FtZeros)
	expect(t, []row{{"zeros are missing", both, before, "4 { local[2]; b0: r1 = r0; store a0[0] = 0; store a0[1] = 0; jump b1; b1: print r1; jump b2; b2: return;", "b0:0"}}, api.FtRegisters)
	expect(t, []row{{"both are missing", both, before, "4 { local[2]; b0: r1 = r0; jump b1; b1: print r1; jump b2; b2: return;", "b0:0"}}, api.FtZeros, api.FtRegisters)
}

// P18.1: all instructions, with registers and with constants.
func TestInstructions(t *testing.T) {
	expect(t, []row{
		{"registers", "func g params 2 regs 3 result { local[2]; b0: r2 = r1; r0 = add r2, r1; check r0, r2; r1 = load a0[r0]; store a0[r1] = r2; r2 = get c0; put c0 = r2; print r1; return r2; }",
			"1 { b0: r0 = 1; r0 = call g(r0, 2); print r0; return;",
			"4 { local[2]; b0: r0 = 1; r1 = r0; r2 = 2; r3 = 0; store a0[0] = 0; store a0[1] = 0; jump b1; b1: r3 = r2; r1 = add r3, r2; check r1, r3; r2 = load a0[r1]; store a0[r2] = r3; r3 = get c0; put c0 = r3; print r2; r0 = r3; jump b2; b2: print r0; return;", "b0:1"},
		{"constants", "func g params 0 regs 2 result { local[2]; b0: r1 = -1; r0 = sub 3, 4; check 1, 2; r1 = load a0[5]; store a0[1] = 6; put c0 = 7; print 8; return 9; }",
			"1 { b0: r0 = call g(); print r0; return;",
			"3 { local[2]; b0: r1 = 0; r2 = 0; store a0[0] = 0; store a0[1] = 0; jump b1; b1: r2 = -1; r1 = sub 3, 4; check 1, 2; r2 = load a0[5]; store a0[1] = 6; put c0 = 7; print 8; r0 = 9; jump b2; b2: print r0; return;", "b0:0"},
		{"calls that stay", "func g params 1 regs 2 result { param[2]; local[3]; b0: r1 = call h(r0, 4; a1, a0); call h(5, r1; a1, a0); return r1; } func h params 2 regs 3 result { param[3]; param[2]; b0: jump b1; b1: r2 = phi b0: r0; print r2; return r1; }",
			"1 { local[1]; local[2]; b0: r0 = call g(r0; a1); print r0; return;",
			"3 { local[1]; local[2]; local[3]; b0: r1 = r0; r2 = 0; store a2[0] = 0; store a2[1] = 0; store a2[2] = 0; jump b1; b1: r2 = call h(r1, 4; a2, a1); call h(5, r2; a2, a1); r0 = r2; jump b2; b2: print r0; return;", "b0:0"},
	})
}

// P18.1: the ends of the blocks that follow, and the block after.
func TestEnds(t *testing.T) {
	const ways = "func g params 2 regs 2 result { b0: branch r0, b1, b2; b1: return r1; b2: branch 1, b3, b4; b3: r1 = sub r1, 1; branch r1, b3, b1; b4: trap; b5: return -7; }"
	const none = "func g params 0 regs 0 { b0: jump b2; b1: return; b2: branch 3, b1, b1; }"
	const trap = "func g params 0 regs 1 result { b0: print r0; trap; }"
	const ring = "func g params 0 regs 1 { b0: jump b1; b1: print r0; jump b1; }"
	expect(t, []row{
		{"all ends, to a register", ways, "3 { b0: r2 = call g(r2, 3); print r2; branch r2, b1, b2; b1: print 1; return; b2: print 2; return;",
			"5 { b0: r3 = r2; r4 = 3; jump b3; b1: print 1; return; b2: print 2; return; b3: branch r3, b4, b5; b4: r2 = r4; jump b9; b5: branch 1, b6, b7; b6: r4 = sub r4, 1; branch r4, b6, b4; b7: trap; b8: r2 = -7; jump b9; b9: print r2; branch r2, b1, b2;", "b0:0"},
		{"all ends, to none", ways, "3 { b0: call g(1, 3); print r2; return;",
			"5 { b0: r3 = 1; r4 = 3; jump b1; b1: branch r3, b2, b3; b2: jump b7; b3: branch 1, b4, b5; b4: r4 = sub r4, 1; branch r4, b4, b2; b5: trap; b6: jump b7; b7: print r2; return;", "b0:0"},
		{"no result", none, "1 { b0: jump b1; b1: call g(); r0 = add r0, 1; branch r0, b2, b1; b2: return;", "1 { b0: jump b1; b1: jump b3; b2: return; b3: jump b5; b4: jump b6; b5: branch 3, b4, b4; b6: r0 = add r0, 1; branch r0, b2, b1;", "b1:0"},
		{"a trap", trap, "1 { b0: r0 = call g(); print r0; trap;", "2 { b0: r1 = 0; jump b1; b1: print r1; trap; b2: print r0; trap;", "b0:0"},
		{"no end", ring, "0 { b0: print 2; call g(); jump b1; b1: jump b1;", "1 { b0: print 2; r0 = 0; jump b2; b1: jump b1; b2: jump b3; b3: print r0; jump b3; b4: jump b1;", "b0:1"},
	})
	pass.ExpectEach(t, "main m; func f params 1 regs %s } func m params 0 regs 1 { b0: r0 = call f(4); print r0; return; } func g params 1 regs 1 result { b0: return r0; }",
		samples.Part{Before: "1 result { b0: call g(r0); return r0;", After: "2 result { b0: r1 = r0; jump b1; b1: jump b2; b2: return r0;", Made: "b0:0"})
}

// P18.1: arrays that are given, those of the module, and local ones, in the order of the called function.
func TestArrays(t *testing.T) {
	const given = "func g params 0 regs 1 { param[3]; param[2] small; param[3]; b0: store a1[1] = 300; r0 = load a2[1]; print r0; store a0[1] = 7; return; }"
	const named = "func g params 0 regs 1 { global y; global x; b0: store a0[0] = 300; r0 = load a1[1]; print r0; return; }"
	const mixed = "func g params 0 regs 1 { local[1] small; global y; param[2]; local[1]; global x; local[2]; b0: store a0[0] = 1; store a1[0] = 2; store a2[0] = 3; store a3[0] = 4; store a4[0] = 5; store a5[0] = 6; return; }"
	expect(t, []row{
		{"given", given, "1 { local[2] small; local[3]; local[3]; b0: store a1[1] = 9; call g(; a2, a0, a1); r0 = load a2[1]; print r0; return;", "2 { local[2] small; local[3]; local[3]; b0: store a1[1] = 9; r1 = 0; jump b1; b1: store a0[1] = 300; r1 = load a1[1]; print r1; store a2[1] = 7; jump b2; b2: r0 = load a2[1]; print r0; return;", "b0:1"},
		{"of the module, named already", named, "1 { local[3] small; global x; global y; b0: store a1[1] = 8; call g(); r0 = load a2[0]; print r0; return;", "2 { local[3] small; global x; global y; b0: store a1[1] = 8; r1 = 0; jump b1; b1: store a2[0] = 300; r1 = load a1[1]; print r1; jump b2; b2: r0 = load a2[0]; print r0; return;", "b0:1"},
		{"of the module, one of them named", named, "1 { global x; local[1]; b0: store a0[1] = 8; call g(); return;", "2 { global x; local[1]; global y; b0: store a0[1] = 8; r1 = 0; jump b1; b1: store a2[0] = 300; r1 = load a0[1]; print r1; jump b2; b2: return;", "b0:1"},
		{"of the module, none named", named, "0 { local[2]; b0: call g(); return;", "1 { local[2]; global y; global x; b0: r0 = 0; jump b1; b1: store a1[0] = 300; r0 = load a2[1]; print r0; jump b2; b2: return;", "b0:0"},
		{"of the module, given", "func g params 0 regs 0 { param[2]; global y; b0: store a0[0] = 3; store a1[2] = 4; return; }", "0 { global x; b0: call g(; a0); return;", "0 { global x; global y; b0: jump b1; b1: store a0[0] = 3; store a1[2] = 4; jump b2; b2: return;", "b0:0"},
		{"all kinds", mixed, "0 { local[2]; global x; b0: call g(; a0); return;", "1 { local[2]; global x; local[1] small; global y; local[1]; local[2]; b0: r0 = 0; store a2[0] = 0; store a4[0] = 0; store a5[0] = 0; store a5[1] = 0; jump b1; b1: store a2[0] = 1; store a3[0] = 2; store a0[0] = 3; store a4[0] = 4; store a1[0] = 5; store a5[0] = 6; jump b2; b2: return;", "b0:0"},
		{"local ones for each call, one of the module for both", "func g params 0 regs 1 { local[1]; global y; b0: r0 = load a0[0]; print r0; store a0[0] = 1; store a1[0] = 2; return; }", "0 { b0: call g(); call g(); return;",
			"2 { local[1]; global y; local[1]; b0: r0 = 0; store a0[0] = 0; jump b1; b1: r0 = load a0[0]; print r0; store a0[0] = 1; store a1[0] = 2; jump b2; b2: r1 = 0; store a2[0] = 0; jump b3; b3: r1 = load a2[0]; print r1; store a2[0] = 1; store a1[0] = 2; jump b4; b4: return;", "b0:0 b2:0"},
	})
	pass.ExpectEach(t, "array x[2]; main m; func f params 1 regs %s } func m params 0 regs 0 { global x; local[2]; b0: call f(1; a0); call f(0; a1); return; } func g params 0 regs 1 { param[2]; b0: r0 = load a0[0]; print r0; store a0[0] = 5; return; }",
		samples.Part{Before: "1 { local[2]; param[2]; b0: call g(; a1); call g(; a0); return;", After: "3 { local[2]; param[2]; b0: r1 = 0; jump b1; b1: r1 = load a1[0]; print r1; store a1[0] = 5; jump b2; b2: r2 = 0; jump b3; b3: r2 = load a0[0]; print r2; store a0[0] = 5; jump b4; b4: return;", Made: "b0:0 b2:0"})
}
