package ssa_test

import (
	"fmt"
	"strings"
	"testing"

	"cupel/api"
	"cupel/ir"
)

// P12.2: blocks that are not reached are left out, and do not matter; the others keep their order.
func TestIntoBlocks(t *testing.T) {
	into.expect(t, all(), []row{
		{"nothing to do", "0", "0", "b0: return;", "0", "b0: return;"},
		{"the middle", "0", "1", "b0: jump b2; b1: trap; b2: return;", "0", "b0: jump b1; b1: return;"},
		{"the order", "0", "1", "b0: jump b4; b1: trap; b2: print 2; branch 0, b5, b2; b3: jump b2; b4: print 4; jump b2; b5: return;", "0", "b0: jump b2; b1: print 2; branch 0, b3, b1; b2: print 4; jump b1; b3: return;"},
		{"both ways", "0", "1", "b0: branch 1, b5, b3; b1: jump b3; b2: branch 0, b3, b5; b3: return; b4: return; b5: trap;", "0", "b0: branch 1, b2, b1; b1: return; b2: trap;"},
		{"no phi for them", "0", "1", "b0: r0 = 1; jump b2; b1: r0 = 2; jump b2; b2: print r0; return;", "1", "b0: r0 = 1; jump b1; b1: print r0; return;"},
		{"no operands of them", "0", "1", "b0: branch 1, b1, b3; b1: r0 = 1; jump b4; b2: r0 = 2; jump b4; b3: jump b4; b4: print r0; return;", "2", "b0: branch 1, b1, b2; b1: r0 = 1; jump b3; b2: jump b3; b3: r1 = phi b1: r0, b2: 0; print r1; return;"},
		{"what is live for them alone", "0", "2", "b0: branch 1, b1, b2; b1: r0 = 1; jump b2; b2: r1 = 5; return; b3: print r0; jump b2;", "2", "b0: branch 1, b1, b2; b1: r0 = 1; jump b2; b2: r1 = 5; return;"},
	})
}

// P12.2: which blocks get phis.
func TestIntoPhis(t *testing.T) {
	const diamond = "b0: branch 1, b1, b2; b1: r1 = 7; jump b3; b2: jump b3; "
	into.expect(t, all(), []row{
		{"the example", "0", "2", "b0: r0 = 1; branch 5, b1, b2; b1: r0 = 2; jump b3; b2: print r1; jump b3; b3: print r0; return;", "3", "b0: r0 = 1; branch 5, b1, b2; b1: r1 = 2; jump b3; b2: print 0; jump b3; b3: r2 = phi b1: r1, b2: r0; print r2; return;"},
		{"live", "0", "2", diamond + "b3: print r1; return;", "2", "b0: branch 1, b1, b2; b1: r0 = 7; jump b3; b2: jump b3; b3: r1 = phi b1: r0, b2: 0; print r1; return;"},
		{"not live", "0", "2", diamond + "b3: return;", "1", "b0: branch 1, b1, b2; b1: r0 = 7; jump b3; b2: jump b3; b3: return;"},
		{"defined before it is read", "0", "2", diamond + "b3: r1 = 3; print r1; return;", "2", "b0: branch 1, b1, b2; b1: r0 = 7; jump b3; b2: jump b3; b3: r1 = 3; print r1; return;"},
		{"read before it is defined", "0", "2", diamond + "b3: r1 = r1; print r1; return;", "3", "b0: branch 1, b1, b2; b1: r0 = 7; jump b3; b2: jump b3; b3: r1 = phi b1: r0, b2: 0; r2 = r1; print r2; return;"},
		{"live behind", "0", "2", diamond + "b3: jump b4; b4: print r1; return;", "2", "b0: branch 1, b1, b2; b1: r0 = 7; jump b3; b2: jump b3; b3: r1 = phi b1: r0, b2: 0; jump b4; b4: print r1; return;"},
		{"read by the end", "0", "2", diamond + "b3: branch r1, b4, b4; b4: return;", "2", "b0: branch 1, b1, b2; b1: r0 = 7; jump b3; b2: jump b3; b3: r1 = phi b1: r0, b2: 0; branch r1, b4, b4; b4: return;"},
		{"one definition above", "0", "1", "b0: r0 = 1; branch 1, b1, b2; b1: jump b3; b2: jump b3; b3: print r0; return;", "1", "b0: r0 = 1; branch 1, b1, b2; b1: jump b3; b2: jump b3; b3: print r0; return;"},
		// The phi of b3 is a definition, and b5 is in the frontier of b3 alone.
		{"phis for phis", "0", "1", "b0: branch 1, b1, b4; b1: branch 2, b2, b3; b2: r0 = 1; jump b3; b3: jump b5; b4: jump b5; b5: print r0; return;", "3", "b0: branch 1, b1, b4; b1: branch 2, b2, b3; b2: r0 = 1; jump b3; b3: r1 = phi b1: 0, b2: r0; jump b5; b4: jump b5; b5: r2 = phi b3: r1, b4: 0; print r2; return;"},
		{"a loop", "0", "1", "b0: jump b1; b1: r0 = add r0, 1; branch r0, b1, b2; b2: print r0; return;", "2", "b0: jump b1; b1: r0 = phi b0: 0, b1: r1; r1 = add r0, 1; branch r1, b1, b2; b2: print r1; return;"},
		{"a loop that reads", "0", "1", "b0: r0 = 1; jump b1; b1: print r0; branch r0, b1, b2; b2: return;", "1", "b0: r0 = 1; jump b1; b1: print r0; branch r0, b1, b2; b2: return;"},
		{"in its own frontier, not live", "0", "1", "b0: jump b1; b1: r0 = 1; print r0; branch r0, b1, b2; b2: return;", "1", "b0: jump b1; b1: r0 = 1; print r0; branch r0, b1, b2; b2: return;"},
		{"one end that leads there twice", "0", "1", "b0: r0 = 1; branch 1, b1, b1; b1: r0 = 2; branch r0, b2, b1; b2: print r0; return;", "2", "b0: r0 = 1; branch 1, b1, b1; b1: r1 = 2; branch r1, b2, b1; b2: print r1; return;"},
		{"two ways from one block", "0", "1", "b0: branch 1, b1, b2; b1: r0 = 4; branch r0, b2, b2; b2: print r0; return;", "2", "b0: branch 1, b1, b2; b1: r0 = 4; branch r0, b2, b2; b2: r1 = phi b0: 0, b1: r0; print r1; return;"},
		// It is live at b3, but from b2 on everything is defined again.
		{"a loop around", "0", "2", "b0: jump b1; b1: r0 = 1; branch r1, b2, b3; b2: r1 = 2; jump b3; b3: print r0; branch r1, b1, b4; b4: return;", "4", "b0: jump b1; b1: r0 = phi b0: 0, b3: r3; r1 = 1; branch r0, b2, b3; b2: r2 = 2; jump b3; b3: r3 = phi b1: r0, b2: r2; print r1; branch r3, b1, b4; b4: return;"},
	})
}

// P12.2: the order of phis, and of the numbers.
func TestIntoNumbers(t *testing.T) {
	into.expect(t, all(), []row{
		{"in order", "0", "9", "b0: r8 = 1; r3 = 2; r8 = 3; r0 = r8; print r3; return;", "4", "b0: r0 = 1; r1 = 2; r2 = 3; r3 = r2; print r1; return;"},
		{"phis in the order of the old registers", "0", "5", "b0: branch 1, b1, b2; b1: r4 = 4; r2 = 2; r3 = 3; jump b2; b2: print r3; print r4; print r2; return;", "6", "b0: branch 1, b1, b2; b1: r0 = 4; r1 = 2; r2 = 3; jump b2; b2: r3 = phi b0: 0, b1: r1; r4 = phi b0: 0, b1: r2; r5 = phi b0: 0, b1: r0; print r4; print r5; print r3; return;"},
		// b2 and b3 are dominated by b4, which comes after b1 and what that dominates.
		{"with all that it dominates", "0", "1", "b0: branch 1, b4, b1; b1: r0 = 1; branch 1, b5, b6; b2: r0 = 2; jump b3; b3: r0 = 3; return; b4: r0 = 4; jump b2; b5: r0 = 5; return; b6: r0 = 6; return;", "6", "b0: branch 1, b4, b1; b1: r0 = 1; branch 1, b5, b6; b2: r4 = 2; jump b3; b3: r5 = 3; return; b4: r3 = 4; jump b2; b5: r1 = 5; return; b6: r2 = 6; return;"},
		{"not the order of the ways", "0", "1", "b0: branch 1, b3, b2; b1: r0 = 1; return; b2: r0 = 2; jump b1; b3: r0 = 3; jump b1;", "3", "b0: branch 1, b3, b2; b1: r0 = 1; return; b2: r1 = 2; jump b1; b3: r2 = 3; jump b1;"},
		{"operands before what is defined", "0", "1", "b0: r0 = add r0, r0; r0 = add r0, r0; print r0; return;", "2", "b0: r0 = add 0, 0; r1 = add r0, r0; print r1; return;"},
		{"copies stay", "0", "3", "b0: r0 = 1; r1 = r0; r2 = r1; r0 = r2; print r0; return;", "4", "b0: r0 = 1; r1 = r0; r2 = r1; r3 = r2; print r3; return;"},
		{"calls without a result get none", "0", "3", "b0: r2 = 1; call g(r2, r2; a0); r2 = call g(r2, r1; a1); r0 = r2; return;", "3", "b0: r0 = 1; call g(r0, r0; a0); r1 = call g(r0, 0; a1); r2 = r1; return;"},
	})
}

// P12.2: parameters keep their numbers, and stand for themselves until they are defined.
func TestIntoParameters(t *testing.T) {
	into.expect(t, all(), []row{
		{"not used", "3", "9", "b0: r8 = 1; print r8; return;", "4", "b0: r3 = 1; print r3; return;"},
		{"used", "2=", "2", "b0: print r1; return r0;", "2", "b0: print r1; return r0;"},
		{"defined", "2=", "2", "b0: print r1; r1 = r0; r0 = 5; print r1; return r0;", "4", "b0: print r1; r2 = r0; r3 = 5; print r2; return r3;"},
		{"in a phi", "2=", "2", "b0: branch r0, b1, b2; b1: r1 = 1; jump b2; b2: return r1;", "4", "b0: branch r0, b1, b2; b1: r2 = 1; jump b2; b2: r3 = phi b0: r1, b1: r2; return r3;"},
		{"in a loop", "1=", "1", "b0: jump b1; b1: r0 = sub r0, 1; branch r0, b1, b2; b2: return r0;", "3", "b0: jump b1; b1: r1 = phi b0: r0, b1: r2; r2 = sub r1, 1; branch r2, b1, b2; b2: return r2;"},
	})
}

// P12.2: what is not defined is 0, or with a fault 1, wherever it stands; constants stay.
func TestIntoUndefined(t *testing.T) {
	const kinds = "r7 = %; r7 = add %, 5; r7 = sub 5, %; check %, 5; check 5, %; r7 = load a0[%]; store a0[%] = 5; store a0[5] = %; put c1 = %; print %; r7 = call g(%, 5; a0); r7 = call g(5, %; a0); r7 = get c1; call g(%, %; a0); "
	renamed := strings.Replace(kinds, "r7", "r1", 1)
	for n := 2; n <= 7; n++ {
		renamed = strings.Replace(renamed, "r7", fmt.Sprint("r", n), 1)
	}
	// The fault of another pass changes nothing.
	for _, c := range []struct {
		x     api.Limit
		value string
	}{{all(), "0"}, {all(api.FtUndefined), "1"}, {all(api.FtOneByOne), "0"}, {all(api.FtUndefined, api.FtOneByOne, api.MaxFaults), "1"}, {api.Limit{Most: 1, Faults: []int{api.FtUndefined}}, "1"}} {
		before, after := filled(kinds, "r3"), filled(renamed, c.value)
		into.expect(t, c.x, []row{
			{"each operand", "1", "8", "b0: " + before + "return;", "8", "b0: " + after + "return;"},
			{"a result", "1=", "8", "b0: return r3;", "1", "b0: return " + c.value + ";"},
			{"a branch", "1", "8", "b0: branch r3, b1, b1; b1: return;", "1", "b0: branch " + c.value + ", b1, b1; b1: return;"},
			{"a phi", "1", "8", "b0: branch 1, b1, b2; b1: r3 = 9; jump b2; b2: print r3; return;", "3", "b0: branch 1, b1, b2; b1: r1 = 9; jump b2; b2: r2 = phi b0: " + c.value + ", b1: r1; print r2; return;"},
			{"defined below", "1", "8", "b0: print r3; r3 = 9; print r3; return;", "2", "b0: print " + c.value + "; r1 = 9; print r1; return;"},
			{"defined beside", "1", "8", "b0: branch 1, b1, b2; b1: r3 = 9; return; b2: print r3; return;", "2", "b0: branch 1, b1, b2; b1: r1 = 9; return; b2: print " + c.value + "; return;"},
			{"a parameter is", "1", "8", "b0: print r0; return;", "1", "b0: print r0; return;"},
		})
	}
}

// P12.2: a function with a phi is refused, wherever that is, and whatever Most is.
func TestIntoWithPhi(t *testing.T) {
	for _, body := range []string{
		"b0: jump b1; b1: r0 = phi b0: 1; return;",
		"b0: jump b1; b1: r0 = phi b0: 1; print r0; return;",
		"b0: return; b1: r0 = phi; return;",
		"b0: return; b1: jump b2; b2: print 1; return; b3: jump b4; b4: r0 = phi b3: 1; trap;",
	} {
		for most := -1; most < 3; most++ {
			into.fail(t, of(t, "params 0 regs 1", body), 0, api.Limit{Most: most}, api.ErrDown)
		}
	}
	// Other functions may have some.
	m := read(t, "main f; func f params 0 regs 1 { b0: r0 = 1; print r0; return; } func g params 0 regs 1 { b0: jump b1; b1: r0 = phi b0: 1; return; }")
	if made := into.make(t, m, 0, all()); !ir.Same(made, m) {
		t.Errorf("%s", text(made))
	}
	into.fail(t, m, 1, all(), api.ErrDown)
}

// repeated is a piece of code so many times.
func repeated(code string, count int) string { return strings.Repeat(code, count) }

// P12.2: too many registers, or too many instructions.
func TestIntoLong(t *testing.T) {
	for _, c := range []struct {
		head, body string
		want       api.Errno
	}{
		{"params 0 regs 1", "b0: " + repeated("r0 = 1; ", 300) + "return;", api.OK},
		{"params 0 regs 1", "b0: " + repeated("r0 = 1; ", 301) + "return;", api.ErrLong},
		{"params 8 regs 300", "b0: " + repeated("r8 = 1; ", 292) + "return;", api.OK},
		{"params 8 regs 300", "b0: " + repeated("r8 = 1; ", 293) + "return;", api.ErrLong},
		{"params 0 regs 1", "b0: " + repeated("r0 = 1; ", 298) + "branch r0, b1, b2; b1: r0 = 2; jump b2; b2: print r0; return;", api.OK},
		{"params 0 regs 1", "b0: " + repeated("r0 = 1; ", 299) + "branch r0, b1, b2; b1: r0 = 2; jump b2; b2: print r0; return;", api.ErrLong},
		{"params 0 regs 1", "b0: " + repeated("print 1; ", 397) + "branch r0, b1, b2; b1: r0 = 2; jump b2; b2: print r0; return;", api.OK},
		{"params 0 regs 1", "b0: " + repeated("print 1; ", 398) + "branch r0, b1, b2; b1: r0 = 2; jump b2; b2: print r0; return;", api.ErrLong},
		{"params 0 regs 1", "b0: return; b1: " + repeated("r0 = 1; ", 400) + "return;", api.OK},
	} {
		m := of(t, c.head, c.body)
		into.stay(t, m, 0, api.Limit{})
		if c.want == api.OK {
			into.make(t, m, 0, all())
		} else {
			into.fail(t, m, 0, all(), c.want)
			into.fail(t, m, 0, api.Limit{Most: 1}, c.want)
		}
	}
}

// P12.2: many phis: each of 60 blocks of a loop may go back, and changes each register.
func TestIntoManyPhis(t *testing.T) {
	for _, regs := range []int{2, 3, 5, 300} {
		body := "b0: jump b1; "
		for b := 1; b < 59; b++ {
			body += fmt.Sprintf("b%d: r%d = r%d; branch r0, b%d, b%d; ", b, b%regs, (b+1)%regs, b+1, 1+b/2)
		}
		m := of(t, fmt.Sprintf("params 0 regs %d", regs), body+"b59: print r0; return;")
		made, list, e := into.run(m, 0, all())
		if want, long := modelInto(m, 0, 0); long != (e == api.ErrLong) || !long && (!ir.Same(made, want) || len(list) != 1) {
			t.Errorf("%d registers: error %d\n%s", regs, e, text(made))
		}
	}
}
