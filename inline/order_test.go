package inline_test

import (
	"strings"
	"testing"

	"cupel/api"
	"cupel/samples"
)

// P18.1: which call is the first one.
func TestOrder(t *testing.T) {
	const one = "func g params 1 regs 1 { b0: print r0; return; } "
	const nested = "func g params 0 regs 0 { b0: call h(); print 1; jump b1; b1: call h(); return; } func h params 0 regs 0 { b0: print 2; return; }"
	expect(t, []row{
		{"of a block, one after the other", one, "0 { b0: call g(1); print 5; call g(2); return;", "2 { b0: r0 = 1; jump b1; b1: print r0; jump b2; b2: print 5; r1 = 2; jump b3; b3: print r1; jump b4; b4: return;", "b0:0 b2:1"},
		{"the lower block, not the one that is entered first", one, "0 { b0: jump b2; b1: call g(1); return; b2: call g(2); jump b1;", "2 { b0: jump b2; b1: r0 = 1; jump b3; b2: r1 = 2; jump b5; b3: print r0; jump b4; b4: return; b5: print r1; jump b6; b6: jump b1;", "b1:0 b2:0"},
		{"a block that is not reached", one, "0 { b0: return; b1: call g(1); jump b1;", "1 { b0: return; b1: r0 = 1; jump b2; b2: print r0; jump b3; b3: jump b1;", "b1:0"},
		{"what was behind a call comes after all blocks there were", one, "0 { b0: call g(1); call g(2); jump b1; b1: call g(3); return;",
			"3 { b0: r0 = 1; jump b2; b1: r1 = 3; jump b4; b2: print r0; jump b3; b3: r2 = 2; jump b6; b4: print r1; jump b5; b5: return; b6: print r2; jump b7; b7: jump b1;", "b0:0 b1:0 b3:0"},
		{"calls of what is called", nested, "0 { b0: call g(); call h(); return;",
			"0 { b0: jump b1; b1: jump b4; b2: jump b6; b3: jump b8; b4: print 2; jump b5; b5: print 1; jump b2; b6: print 2; jump b7; b7: jump b3; b8: print 2; jump b9; b9: return;", "b0:0 b1:0 b2:0 b3:0"},
		{"main is called", "func g params 0 regs 0 { b0: print 1; return; }", "0 { b0: call g(); return;", "0 { b0: jump b1; b1: print 1; jump b2; b2: return;", "b0:0"},
	})
	m := samples.Read(t, "main g; func f params 0 regs 0 { b0: call g(); return; } func g params 0 regs 1 { local[1]; b0: store a0[0] = 3; print r0; return; }")
	want := samples.Read(t, "main g; func f params 0 regs 1 { local[1]; b0: r0 = 0; store a0[0] = 0; jump b1; b1: store a0[0] = 3; print r0; jump b2; b2: return; } func g params 0 regs 1 { local[1]; b0: store a0[0] = 3; print r0; return; }")
	pass.ExpectMade(t, "a call of Main", m, want, 0, samples.All(), "b0:0")
}

// P18.1: what is called in a loop begins anew each time.
func TestLoop(t *testing.T) {
	expect(t, []row{
		{"a loop of one block", "func g params 1 regs 2 result { local[2]; b0: r1 = add r1, r0; store a0[0] = r1; r0 = load a0[1]; print r0; store a0[1] = r1; return r1; }",
			"2 { b0: jump b1; b1: r0 = add r0, 1; r1 = call g(r0); print r1; r1 = lt r0, 3; branch r1, b1, b2; b2: return;",
			"4 { local[2]; b0: jump b1; b1: r0 = add r0, 1; r2 = r0; r3 = 0; store a0[0] = 0; store a0[1] = 0; jump b3; b2: return; b3: r3 = add r3, r2; store a0[0] = r3; r2 = load a0[1]; print r2; store a0[1] = r3; r1 = r3; jump b4; b4: print r1; r1 = lt r0, 3; branch r1, b1, b2;", "b1:1"},
	})
}

// P18.1: calls that cannot be replaced are passed over.
func TestPassedOver(t *testing.T) {
	const phi = "func p params 0 regs 1 { b0: jump b1; b1: r0 = phi b0: 3; print r0; return; } "
	const lost = "func q params 0 regs 1 { b0: return; b1: r0 = phi ; return; } "
	long := "func l params 0 regs 0 { b0: " + strings.Repeat("print 1; ", 31) + "return; } "
	parted := "func l params 0 regs 0 { b0: " + strings.Repeat("print 1; ", 16) + "jump b1; b1: " + strings.Repeat("print 1; ", 15) + "return; } "
	const one = "func g params 0 regs 0 { b0: print 2; return; } "
	expect(t, []row{
		same("a phi", phi, "0 { b0: call p(); return;"),
		same("a phi that is not reached", lost, "0 { b0: call q(); return;"),
		same("31 instructions", long, "0 { b0: call l(); return;"),
		same("31 instructions in two blocks", parted, "0 { b0: call l(); return;"),
		same("nothing is called", one, "0 { b0: print 2; return;"),
		{"one behind others", phi + long + one, "0 { b0: call p(); call l(); jump b1; b1: call l(); call g(); call p(); return;", "0 { b0: call p(); call l(); jump b1; b1: call l(); jump b2; b2: print 2; jump b3; b3: call p(); return;", "b1:1"},
		{"one that calls others", "func g params 0 regs 0 { b0: call l(); call p(); return; } " + phi + long, "0 { b0: call g(); return;", "0 { b0: jump b1; b1: call l(); call p(); jump b2; b2: return;", "b0:0"},
	})
	thirty := strings.Repeat("print 1; ", 30)
	const ends = "branch 0, b1, b2; b1: trap; b2: return; "
	expect(t, []row{
		{"30 instructions", "func g params 0 regs 0 { b0: " + thirty + "return; }", "0 { b0: call g(); return;", "0 { b0: jump b1; b1: " + thirty + "jump b2; b2: return;", "b0:0"},
		{"ends do not count", "func g params 0 regs 0 { b0: " + thirty + ends + "}", "0 { b0: call g(); return;", "0 { b0: jump b1; b1: " + thirty + "branch 0, b2, b3; b2: trap; b3: jump b4; b4: return;", "b0:0"},
	})
}

// P18.1: the first so many applications.
func TestMost(t *testing.T) {
	pass.ExpectSteps(t, "1 regs 2 / 1 regs 6 / 1 regs 10 / 1 regs 14", []string{
		"b0: r1 = call g(r0, 1; a0); branch r1, b1, b2; b1: call g(1, r1; a0); print r1; call g(r0, r0; a0); jump b2; b2: return;",
		"b0: r2 = r0; r3 = 1; r4 = 0; r5 = 0; jump b3; b1: call g(1, r1; a0); print r1; call g(r0, r0; a0); jump b2; b2: return; b3: print r2; r4 = load a0[r2]; put c1 = r4; r5 = get c0; put c0 = r3; store a0[1] = r5; store a2[r3] = r2; r1 = r5; jump b4; b4: branch r1, b1, b2;",
		"b0: r2 = r0; r3 = 1; r4 = 0; r5 = 0; jump b3; b1: r6 = 1; r7 = r1; r8 = 0; r9 = 0; jump b5; b2: return; b3: print r2; r4 = load a0[r2]; put c1 = r4; r5 = get c0; put c0 = r3; store a0[1] = r5; store a2[r3] = r2; r1 = r5; jump b4; b4: branch r1, b1, b2; b5: print r6; r8 = load a0[r6]; put c1 = r8; r9 = get c0; put c0 = r7; store a0[1] = r9; store a2[r7] = r6; jump b6; b6: print r1; call g(r0, r0; a0); jump b2;",
		"b0: r2 = r0; r3 = 1; r4 = 0; r5 = 0; jump b3; b1: r6 = 1; r7 = r1; r8 = 0; r9 = 0; jump b5; b2: return; b3: print r2; r4 = load a0[r2]; put c1 = r4; r5 = get c0; put c0 = r3; store a0[1] = r5; store a2[r3] = r2; r1 = r5; jump b4; b4: branch r1, b1, b2; b5: print r6; r8 = load a0[r6]; put c1 = r8; r9 = get c0; put c0 = r7; store a0[1] = r9; store a2[r7] = r6; jump b6; b6: print r1; r10 = r0; r11 = r0; r12 = 0; r13 = 0; jump b7; b7: print r10; r12 = load a0[r10]; put c1 = r12; r13 = get c0; put c0 = r11; store a0[1] = r13; store a2[r11] = r10; jump b8; b8: jump b2;",
	}, "b0:0 b1:0 b6:1")
}

// P18.1: one function of a module; others stay as they are.
func TestOtherFunctions(t *testing.T) {
	pass.ExpectEach(t, "main m; func f params 1 regs %s } func m params 0 regs %s } func g params 1 regs 1 result { b0: print r0; return 8; }",
		samples.Part{Before: "1 { b0: call g(r0); return;", After: "2 { b0: r1 = r0; jump b1; b1: print r1; jump b2; b2: return;", Made: "b0:0"},
		samples.Part{Before: "1 { b0: r0 = call g(3); call f(r0); return;", After: "4 { b0: r1 = 3; jump b1; b1: print r1; r0 = 8; jump b2; b2: r2 = r0; jump b3; b3: r3 = r2; jump b5; b4: return; b5: print r3; jump b6; b6: jump b4;", Made: "b0:0 b2:0 b3:0"})
}

// P18.1: the errors, for functions with phis, too: also of those that are not reached.
func TestErrors(t *testing.T) {
	for _, body := range []string{"b0: jump b1; b1: r1 = phi b0: 3; print r1; return;", "b0: return; b1: r1 = phi ; return;", "b0: call g(1, 2; a0); jump b1; b1: r1 = phi b0: 3; return;"} {
		m := samples.Of(t, "1 regs 2", body)
		for _, most := range []int{-1, 0, 1, 7} {
			pass.ExpectError(t, m, 0, api.Limit{Most: most}, api.ErrDown)
			pass.ExpectError(t, m, 3, api.Limit{Most: most}, api.ErrArg)
			pass.ExpectError(t, m, 0, api.Limit{Most: most, Faults: []int{0}}, api.ErrArg)
		}
		pass.ExpectError(t, m, 0, api.Limit{Most: -2}, api.ErrArg)
		if _, list := pass.Made(t, m, 1, samples.All()); len(list) > 0 {
			t.Errorf("%s: %v", body, list)
		}
		m.Funcs[1].Regs = 301
		pass.ExpectError(t, m, 3, api.Limit{Most: -2}, api.ErrLong)
	}
}
