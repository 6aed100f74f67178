package ssa_test

import (
	"fmt"
	"testing"

	"cupel/api"
	"cupel/ir"
)

// P12.3: copies stand at the end of the block before, or on an edge of their own.
func TestOutEdges(t *testing.T) {
	out.expect(t, all(), []row{
		{"no phis", "1", "3", "b0: r2 = r0; branch r2, b2, b1; b1: return; b2: trap;", "3", "b0: r2 = r0; branch r2, b2, b1; b1: return; b2: trap;"},
		{"the example", "0", "3", "b0: r0 = 1; branch 5, b1, b2; b1: r1 = 2; jump b3; b2: print 0; jump b3; b3: r2 = phi b1: r1, b2: r0; print r2; return;", "3", "b0: r0 = 1; branch 5, b1, b2; b1: r1 = 2; r2 = r1; jump b3; b2: print 0; r2 = r0; jump b3; b3: print r2; return;"},
		{"one block before", "0", "1", "b0: print 1; jump b1; b1: r0 = phi b0: 7; print r0; return;", "1", "b0: print 1; r0 = 7; jump b1; b1: print r0; return;"},
		{"To leads elsewhere", "0", "1", "b0: branch 1, b1, b2; b1: r0 = phi b0: 7; print r0; return; b2: return;", "1", "b0: branch 1, b3, b2; b1: print r0; return; b2: return; b3: r0 = 7; jump b1;"},
		{"Else leads elsewhere", "0", "1", "b0: branch 1, b1, b2; b1: return; b2: r0 = phi b0: 7; print r0; return;", "1", "b0: branch 1, b1, b3; b1: return; b2: print r0; return; b3: r0 = 7; jump b2;"},
		{"both have phis", "0", "2", "b0: branch 1, b2, b1; b1: r0 = phi b0: 7; return; b2: r1 = phi b0: 8; return;", "2", "b0: branch 1, b4, b3; b1: return; b2: return; b3: r0 = 7; jump b1; b4: r1 = 8; jump b2;"},
		{"both to one block", "0", "1", "b0: branch 1, b1, b1; b1: r0 = phi b0: 7; return;", "1", "b0: r0 = 7; branch 1, b1, b1; b1: return;"},
		// The end asks for the register that the copy before it writes, which changes nothing.
		{"both to itself", "0", "2", "b0: jump b1; b1: r0 = phi b0: 1, b1: r1; r1 = add r0, 1; branch r0, b1, b1;", "2", "b0: r0 = 1; jump b1; b1: r1 = add r0, 1; r0 = r1; branch r0, b1, b1;"},
		{"to itself", "0", "2", "b0: jump b1; b1: r0 = phi b0: 1, b1: r1; r1 = add r0, 1; jump b1;", "2", "b0: r0 = 1; jump b1; b1: r1 = add r0, 1; r0 = r1; jump b1;"},
		{"the old value is lost", "0", "2", "b0: jump b1; b1: r0 = phi b0: 1, b1: r1; r1 = add r0, 1; branch r1, b1, b2; b2: print r0; return;", "2", "b0: r0 = 1; jump b1; b1: r1 = add r0, 1; branch r1, b3, b2; b2: print r0; return; b3: r0 = r1; jump b1;"},
		{"new blocks are numbered by the block, then the one before", "0", "3", "b0: branch 1, b3, b1; b1: r0 = phi b0: 1, b2: 2, b3: 3; branch 2, b3, b4; b2: r1 = phi b3: 4; branch 3, b1, b4; b3: r2 = phi b0: 5, b1: r0; branch 4, b2, b1; b4: return;", "3", "b0: branch 1, b9, b5; b1: branch 2, b10, b4; b2: branch 3, b6, b4; b3: branch 4, b8, b7; b4: return; b5: r0 = 1; jump b1; b6: r0 = 2; jump b1; b7: r0 = 3; jump b1; b8: r1 = 4; jump b2; b9: r2 = 5; jump b3; b10: r2 = r0; jump b3;"},
		{"phis of the block before go first", "0", "2", "b0: jump b1; b1: r0 = phi b0: 1; jump b2; b2: r1 = phi b1: r0; print r1; return;", "2", "b0: r0 = 1; jump b1; b1: r1 = r0; jump b2; b2: print r1; return;"},
		{"a block after", "0", "2", "b0: jump b2; b1: r0 = phi b2: r1; print r0; return; b2: r1 = phi b0: 5; print r1; jump b1;", "2", "b0: r1 = 5; jump b2; b1: print r0; return; b2: print r1; r0 = r1; jump b1;"},
		{"registers that are not used", "2", "9", "b0: jump b1; b1: r8 = phi b0: r1; print r8; return;", "9", "b0: r8 = r1; jump b1; b1: print r8; return;"},
		{"a new block without copies", "1", "2", "b0: jump b1; b1: r1 = phi b0: r0, b1: r1; branch r0, b1, b2; b2: return;", "2", "b0: r1 = r0; jump b1; b1: branch r0, b3, b2; b2: return; b3: jump b1;"},
	})
}

// P12.3: blocks that are not reached are as others.
func TestOutNotReached(t *testing.T) {
	out.expect(t, all(), []row{
		{"before", "0", "3", "b0: jump b2; b1: print r2; jump b2; b2: r0 = phi b0: 1, b1: r2; print r0; return;", "3", "b0: r0 = 1; jump b2; b1: print r2; r0 = r2; jump b2; b2: print r0; return;"},
		{"before, on an edge", "0", "1", "b0: jump b2; b1: branch 1, b2, b1; b2: r0 = phi b0: 1, b1: r0; return;", "1", "b0: r0 = 1; jump b2; b1: branch 1, b3, b1; b2: return; b3: jump b2;"},
		{"without any before", "0", "1", "b0: return; b1: r0 = phi; print r0; return;", "1", "b0: return; b1: print r0; return;"},
		{"both", "0", "2", "b0: return; b1: r1 = phi b1: r0, b2: r1; branch r1, b1, b2; b2: r0 = phi b1: 3; jump b1;", "2", "b0: return; b1: branch r1, b3, b4; b2: jump b1; b3: r1 = r0; jump b1; b4: r0 = 3; jump b2;"},
	})
}

// looped is a function whose block b1 has these phis, with 0 at first, and what is said from b2, which follows it and jumps to it.
func looped(args ...string) string {
	s := "b0: jump b1; b1: "
	for i, a := range args {
		s += fmt.Sprintf("r%d = phi b0: 0, b2: %s; ", i+1, a)
	}
	return s + "print r1; jump b2; b2: print 7; jump b1;"
}

// copied is what looped becomes.
func copied(count int, copies string) string {
	s := "b0: "
	for i := range count {
		s += fmt.Sprintf("r%d = 0; ", i+1)
	}
	return s + "jump b1; b1: print r1; jump b2; b2: print 7; " + copies + "jump b1;"
}

// P12.3: copies are made all at once: registers after, the copies, and what the phis r1, r2 .. have in the loop. r0 is a parameter.
func TestOutAtOnce(t *testing.T) {
	for _, c := range [][]string{
		{"4", "r1 = 1; r2 = 2; r3 = r0; ", "1", "2", "r0"},
		{"3", "", "r1", "r2"},
		{"4", "r2 = r1; ", "r1", "r1", "r3"},
		// The first one whose register is not needed any more.
		{"4", "r3 = r2; r2 = r1; r1 = 5; ", "5", "r1", "r2"},
		{"4", "r1 = r2; r2 = r3; r3 = 5; ", "r2", "r3", "5"},
		{"5", "r2 = r1; r1 = r3; r3 = r4; r4 = 1; ", "r3", "r1", "r4", "1"},
		{"5", "r2 = 2; r3 = r1; r4 = r1; r1 = 1; ", "1", "2", "r1", "r1"},
		// After each copy one begins at the first again.
		{"5", "r2 = r1; r1 = 1; r4 = r3; r3 = 3; ", "1", "r1", "3", "r3"},
		// The example.
		{"5", "r3 = r1; r4 = r1; r1 = r2; r2 = r4; ", "r2", "r1", "r1"},
		// Rings.
		{"4", "r3 = r1; r1 = r2; r2 = r3; ", "r2", "r1"},
		{"5", "r4 = r1; r1 = r2; r2 = r3; r3 = r4; ", "r2", "r3", "r1"},
		{"5", "r4 = r1; r1 = r3; r3 = r2; r2 = r4; ", "r3", "r1", "r2"},
		{"7", "r5 = r1; r1 = r2; r2 = r5; r6 = r3; r3 = r4; r4 = r6; ", "r2", "r1", "r4", "r3"},
		{"7", "r5 = r1; r1 = r4; r4 = r5; r6 = r2; r2 = r3; r3 = r6; ", "r4", "r3", "r2", "r1"},
		// The first one that is left is not the first one of all.
		{"6", "r1 = r3; r4 = r3; r5 = r2; r2 = r3; r3 = r5; ", "r3", "r3", "r2", "r3"},
		{"5", "r4 = r2; r2 = r3; r3 = r4; ", "r1", "r3", "r2"},
		{"6", "r1 = 5; r5 = r2; r2 = r4; r4 = r3; r3 = r5; ", "5", "r4", "r2", "r3"},
	} {
		args := c[2:]
		out.expect(t, all(), []row{{fmt.Sprint(args), "1", fmt.Sprint(len(args) + 1), looped(args...), c[0], copied(len(args), c[1])}})
	}
}

// P12.3: each ring, on each edge, has a register of its own.
func TestOutNewRegisters(t *testing.T) {
	out.expect(t, all(), []row{
		{"two edges", "0", "3", "b0: jump b1; b1: r0 = phi b0: 1, b1: r1, b2: r1; r1 = phi b0: 2, b1: r0, b2: r0; r2 = lt r0, r1; branch r2, b1, b2; b2: branch r0, b1, b3; b3: return;", "5", "b0: r0 = 1; r1 = 2; jump b1; b1: r2 = lt r0, r1; branch r2, b4, b2; b2: branch r0, b5, b3; b3: return; b4: r3 = r0; r0 = r1; r1 = r3; jump b1; b5: r4 = r0; r0 = r1; r1 = r4; jump b1;"},
		{"two loops", "1", "12", "b0: jump b1; b1: r10 = phi b0: 1, b1: r11; r11 = phi b0: 2, b1: r10; branch r0, b1, b2; b2: r2 = phi b1: 1, b2: r3; r3 = phi b1: 2, b2: r2; jump b2;", "14", "b0: r10 = 1; r11 = 2; jump b1; b1: branch r0, b3, b4; b2: r13 = r2; r2 = r3; r3 = r13; jump b2; b3: r12 = r10; r10 = r11; r11 = r12; jump b1; b4: r2 = 1; r3 = 2; jump b2;"},
	})
}

// P12.3: with a fault, all copies are made in order, also those of a register to itself.
func TestOutOneByOne(t *testing.T) {
	for _, x := range []api.Limit{all(api.FtOneByOne), all(api.FtUndefined, api.FtOneByOne), {Most: 3, Faults: []int{api.FtOneByOne, api.FtMinus}}} {
		out.expect(t, x, []row{
			{"a ring", "1", "3", looped("r2", "r1"), "3", copied(2, "r1 = r2; r2 = r1; ")},
			{"itself", "1", "4", looped("r1", "r3", "r2"), "4", copied(3, "r1 = r1; r2 = r3; r3 = r2; ")},
			{"needed later", "1", "3", looped("5", "r1"), "3", copied(2, "r1 = 5; r2 = r1; ")},
			{"on an edge", "1", "2", "b0: jump b1; b1: r1 = phi b0: r0, b1: r1; branch r0, b1, b2; b2: return;", "2", "b0: r1 = r0; jump b1; b1: branch r0, b3, b2; b2: return; b3: r1 = r1; jump b1;"},
		})
	}
	out.expect(t, all(api.FtUndefined, api.FtEqualLess, api.MaxFaults), []row{{"other faults", "1", "3", looped("r2", "r1"), "4", copied(2, "r3 = r1; r1 = r2; r2 = r3; ")}})
}

// P12.3: a function that is not in static single assignment form is refused, whatever Most is.
func TestOutOfOther(t *testing.T) {
	for _, body := range []string{"b0: print r0; return;", "b0: r0 = 1; r0 = 2; return;", "b0: return; b1: r0 = 1; jump b2; b2: r0 = phi b1: 1; return;", "b0: jump b1; b1: r0 = phi b0: r0; return;"} {
		for most := -1; most < 3; most++ {
			out.fail(t, of(t, "params 0 regs 1", body), 0, api.Limit{Most: most}, api.ErrDown)
			out.fail(t, of(t, "params 0 regs 1", body), 0, api.Limit{Most: most, Faults: []int{api.FtOneByOne}}, api.ErrDown)
		}
	}
	// Other functions do not matter.
	m := read(t, "main f; func f params 0 regs 1 { b0: return; } func g params 0 regs 1 { b0: jump b1; b1: r0 = phi b0: r0; return; }")
	if made := out.make(t, m, 0, all()); !ir.Same(made, m) {
		t.Errorf("%s", text(made))
	}
	out.fail(t, m, 1, all(), api.ErrDown)
}

// chain is a function of so many blocks, the last but one of which leads to itself as well, with a ring of phis, the edge of which has to be split.
func chain(count int) string {
	s := ""
	for b := range count - 2 {
		s += fmt.Sprintf("b%d: jump b%d; ", b, b+1)
	}
	last := count - 2
	return s + fmt.Sprintf("b%d: r0 = phi b%d: 1, b%d: r1; r1 = phi b%d: 2, b%d: r0; branch r0, b%d, b%d; b%d: return;", last, last-1, last, last-1, last, last, last+1, last+1)
}

// P12.3: too many registers, instructions or blocks.
func TestOutLong(t *testing.T) {
	ring := "jump b1; b1: r0 = phi b0: 1, b1: r1; r1 = phi b0: 2, b1: r0; jump b1;"
	one := "b0: %sjump b1; b1: r0 = phi b0: 1, b1: 2; jump b1;"
	for _, c := range []struct {
		head, body string
		want       api.Errno
	}{
		{"params 0 regs 2", chain(59), api.OK},
		{"params 0 regs 2", chain(60), api.ErrLong},
		{"params 0 regs 299", "b0: " + ring, api.OK},
		{"params 0 regs 300", "b0: " + ring, api.ErrLong},
		// Two copies before the loop, and three in it.
		{"params 0 regs 2", "b0: " + repeated("print 1; ", 395) + ring, api.OK},
		{"params 0 regs 2", "b0: " + repeated("print 1; ", 396) + ring, api.ErrLong},
		{"params 0 regs 1", fmt.Sprintf(one, repeated("print 1; ", 398)), api.OK},
		{"params 0 regs 1", fmt.Sprintf(one, repeated("print 1; ", 399)), api.ErrLong},
		{"params 0 regs 1", "b0: " + repeated("print 1; ", 399) + "jump b1; b1: r0 = phi b0: 1; return;", api.OK},
	} {
		m := of(t, c.head, c.body)
		out.stay(t, m, 0, api.Limit{})
		if c.want == api.OK {
			out.make(t, m, 0, all())
		} else {
			out.fail(t, m, 0, all(), c.want)
			out.fail(t, m, 0, api.Limit{Most: 1}, c.want)
		}
	}
	// Copies one by one need no other register.
	m := of(t, "params 0 regs 300", "b0: "+ring)
	out.make(t, m, 0, all(api.FtOneByOne))
}
