package fold_test

import (
	"fmt"
	"math"
	"strings"
	"testing"

	"cupel/api"
	"cupel/samples"
)

// P13.1, rule 1: the operands of all instructions, in order, each time that they occur.
func TestOperands(t *testing.T) {
	const head = "0 regs 6"
	first := "b0: r0 = 1; r1 = 2; "
	samples.ExpectSoundRows(t, pass, []row{
		{"a copy", head, first + "r2 = r0; return;", first + "r2 = 1; return;", "b0:2"},
		{"an operation", head, first + "r2 = sub r0, r1; return;", first + "r2 = sub 1, 2; return;", "b0:2 b0:2"},
		{"an operation of a register with itself", head, first + "r2 = mul r1, r1; return;", first + "r2 = mul 2, 2; return;", "b0:2 b0:2"},
		{"the second operand", head, first + "r2 = sub 7, r1; return;", first + "r2 = sub 7, 2; return;", "b0:2"},
		{"a check", head, first + "check r0, r1; return;", first + "check 1, 2; return;", "b0:2 b0:2"},
		{"a check that traps", head, first + "check r1, r0; return;", first + "check 2, 1; return;", "b0:2 b0:2"},
		{"a load", head, first + "r2 = load a1[r1]; return;", first + "r2 = load a1[2]; return;", "b0:2"},
		{"a store", head, first + "store a0[r0] = r1; return;", first + "store a0[1] = 2; return;", "b0:2 b0:2"},
		{"a put", head, first + "put c1 = r1; return;", first + "put c1 = 2; return;", "b0:2"},
		{"a print", head, first + "print r1; return;", first + "print 2; return;", "b0:2"},
		{"a call", head, first + "r2 = call g(r1, r0; a0); return;", first + "r2 = call g(2, 1; a0); return;", "b0:2 b0:2"},
		{"a call without a result", head, first + "call g(r1, 7; a0); return;", first + "call g(2, 7; a0); return;", "b0:2"},
		{"a call of the register 0", head, first + "call g(7, r0; a0); return;", first + "call g(7, 1; a0); return;", "b0:2"},
		{"a phi", head, first + "jump b1; b1: r2 = phi b0: r0; r3 = phi b0: r1; r4 = phi b0: 3; return;", first + "jump b1; b1: r2 = phi b0: 1; r3 = phi b0: 2; r4 = phi b0: 3; return;", "b1:0 b1:1"},
		{"a get", head, first + "r2 = get c0; return;", first + "r2 = get c0; return;", ""},
		{"a return", "0 regs 2 result", first + "return r1;", first + "return 2;", "b0:end"},
		{"a return without a result", "0 regs 2", first + "return;", first + "return;", ""},
		{"a trap", "0 regs 2", first + "trap;", first + "trap;", ""},
		{"a jump", "0 regs 2", first + "jump b1; b1: return;", first + "jump b1; b1: return;", ""},
		{"parameters stay", "2 regs 4 result", "b0: r2 = 1; r3 = add r0, r2; store a0[r3] = r2; return r1;", "b0: r2 = 1; r3 = add r0, 1; store a0[r3] = 1; return r1;", "b0:1 b0:2"},
		{"nothing", "0 regs 0", "b0: return;", "b0: return;", ""},
	})
}

// P13.1, rule 2: branches by constants become jumps; in phis of the block to which they led as well, what belongs to theirs is left out.
func TestBranches(t *testing.T) {
	const ends = "b1: return; b2: return;"
	var rows []row
	for _, v := range []int64{1, -1, 2, 1 << 32, math.MinInt64} {
		rows = append(rows,
			row{"not 0", "0 regs 0", fmt.Sprintf("b0: branch %d, b1, b2; ", v) + ends, "b0: jump b1; " + ends, "b0:end/2"},
			row{"a register that is not 0", "0 regs 1", fmt.Sprintf("b0: r0 = %d; branch r0, b1, b2; ", v) + ends, fmt.Sprintf("b0: r0 = %d; jump b1; ", v) + ends, "b0:end b0:end/2"})
	}
	const join = "b2: r0 = phi b0: 4, b1: 5; r1 = phi b0: 6, b1: 7; print 1; return;"
	samples.ExpectSoundRows(t, pass, append(rows, []row{
		{"0", "0 regs 0", "b0: branch 0, b1, b2; " + ends, "b0: jump b2; " + ends, "b0:end/2"},
		{"a register that is 0", "0 regs 1", "b0: r0 = 0; branch r0, b1, b2; " + ends, "b0: r0 = 0; jump b2; " + ends, "b0:end b0:end/2"},
		{"the other way about", "0 regs 0", "b0: branch 1, b2, b1; " + ends, "b0: jump b2; " + ends, "b0:end/2"},
		{"what varies", "1 regs 1", "b0: branch r0, b1, b2; " + ends, "b0: branch r0, b1, b2; " + ends, ""},
		{"one block twice", "0 regs 1", "b0: branch 1, b1, b1; b1: r0 = phi b0: 3; return;", "b0: jump b1; b1: r0 = phi b0: 3; return;", "b0:end/2"},
		{"one block twice, by 0", "0 regs 2", "b0: r0 = 0; branch r0, b1, b1; b1: r1 = phi b0: r0; return;", "b0: r0 = 0; jump b1; b1: r1 = phi b0: 0; return;", "b0:end b0:end/2 b1:0"},
		{"one block twice, by what varies", "1 regs 2", "b0: branch r0, b1, b1; b1: r1 = phi b0: 3; print r1; return;", "b0: branch r0, b1, b1; b1: r1 = phi b0: 3; print 3; return;", "b1:1"},
		{"phis of the block where it leads", "0 regs 2", "b0: branch 0, b1, b2; b1: jump b2; " + join, "b0: jump b2; b1: jump b2; " + join, "b0:end/2"},
		{"phis of the other one", "0 regs 2", "b0: branch 1, b1, b2; b1: jump b2; " + join, "b0: jump b1; b1: jump b2; b2: r0 = phi b1: 5; r1 = phi b1: 7; print 1; return;", "b0:end/2"},
		{"phis that have no other operand", "0 regs 2", "b0: branch 1, b2, b1; b1: r0 = phi b0: 4; r1 = phi b0: 6; print r1; return; b2: return;", "b0: jump b2; b1: r0 = phi; r1 = phi; print r1; return; b2: return;", "b0:end/2"},
		{"a loop that is left", "0 regs 2", "b0: jump b1; b1: r0 = phi b0: 4, b1: r1; r1 = sub r0, 4; branch r1, b1, b2; b2: print r1; return;", "b0: jump b1; b1: r0 = phi b0: 4; r1 = sub 4, 4; jump b2; b2: print 0; return;", "b1:1 b1:end b1:end/2 b2:0"},
		{"a loop that is not left", "0 regs 3", "b0: jump b1; b1: r0 = phi b0: 4, b1: r1; r1 = or r0, 4; branch r1, b1, b2; b2: r2 = phi b1: r1; print r2; return;", "b0: jump b1; b1: r0 = phi b0: 4, b1: 4; r1 = or 4, 4; jump b1; b2: r2 = phi; print r2; return;", "b1:0 b1:1 b1:end b1:end/2"},
		{"blocks that are not executable", "0 regs 4", "b0: r0 = 1; branch r0, b1, b2; b1: return; b2: r1 = phi b0: r0, b3: 1; r2 = add r0, r0; print r1; branch 1, b3, b4; b3: r3 = phi b2: r0; branch r0, b2, b4; b4: return;", "b0: r0 = 1; jump b1; b1: return; b2: r1 = phi b3: 1; r2 = add r0, r0; print r1; branch 1, b3, b4; b3: r3 = phi b2: r0; branch r0, b2, b4; b4: return;", "b0:end b0:end/2"},
		{"blocks that are not reached", "0 regs 1 result", "b0: return 1; b1: r0 = 1; branch r0, b1, b2; b2: return r0;", "b0: return 1; b1: r0 = 1; branch r0, b1, b2; b2: return r0;", ""},
		{"what belongs to another edge of the block", "1 regs 3", "b0: r1 = 1; branch r0, b1, b2; b1: branch r1, b2, b3; b2: r2 = phi b0: r1, b1: r1; print r2; return; b3: return;", "b0: r1 = 1; branch r0, b1, b2; b1: jump b2; b2: r2 = phi b0: 1, b1: 1; print 1; return; b3: return;", "b1:end b1:end/2 b2:0 b2:0 b2:1"},
	}...))
}

// P13.1: the blocks are gone through as they are numbered, and the facts are found before.
func TestOrder(t *testing.T) {
	samples.ExpectSoundRows(t, pass, []row{
		{"numbers of blocks", "0 regs 2", "b0: jump b2; b1: print r0; print r1; return; b2: r0 = 1; r1 = r0; jump b1;", "b0: jump b2; b1: print 1; print 1; return; b2: r0 = 1; r1 = 1; jump b1;", "b1:0 b1:1 b2:1"},
		{"a phi before a branch that leaves it out", "0 regs 2", "b0: r0 = 0; jump b2; b1: r1 = phi b2: r0, b3: r0; print r1; return; b2: branch r0, b1, b3; b3: jump b1;", "b0: r0 = 0; jump b2; b1: r1 = phi b3: 0; print 0; return; b2: jump b3; b3: jump b1;", "b1:0 b1:1 b2:end b2:end/2"},
		{"a phi behind it", "0 regs 2", "b0: r0 = 0; branch r0, b3, b1; b1: jump b2; b2: jump b3; b3: r1 = phi b0: r0, b2: r0; print r1; return;", "b0: r0 = 0; jump b1; b1: jump b2; b2: jump b3; b3: r1 = phi b2: 0; print 0; return;", "b0:end b0:end/2 b3:0 b3:1"},
		{"the example", "0 regs 3", "b0: r0 = 2; r1 = add r0, 3; branch r1, b1, b2; b1: print r1; return; b2: r2 = phi b0: r1; print r2; return;", "b0: r0 = 2; r1 = add 2, 3; jump b1; b1: print 5; return; b2: r2 = phi; print r2; return;", "b0:1 b0:end b0:end/2 b1:0"},
	})
}

// steps are the bodies after 0, 1, 2 .. applications.
var steps = []string{
	"b0: r0 = 2; r1 = mul r0, r0; branch r1, b1, b2; b1: print r1; jump b2; b2: r2 = phi b0: r1, b1: r1; r3 = add r2, r1; print r3; return;",
	"b0: r0 = 2; r1 = mul 2, r0; branch r1, b1, b2; b1: print r1; jump b2; b2: r2 = phi b0: r1, b1: r1; r3 = add r2, r1; print r3; return;",
	"b0: r0 = 2; r1 = mul 2, 2; branch r1, b1, b2; b1: print r1; jump b2; b2: r2 = phi b0: r1, b1: r1; r3 = add r2, r1; print r3; return;",
	"b0: r0 = 2; r1 = mul 2, 2; branch 4, b1, b2; b1: print r1; jump b2; b2: r2 = phi b0: r1, b1: r1; r3 = add r2, r1; print r3; return;",
	"b0: r0 = 2; r1 = mul 2, 2; jump b1; b1: print r1; jump b2; b2: r2 = phi b1: r1; r3 = add r2, r1; print r3; return;",
	"b0: r0 = 2; r1 = mul 2, 2; jump b1; b1: print 4; jump b2; b2: r2 = phi b1: r1; r3 = add r2, r1; print r3; return;",
	"b0: r0 = 2; r1 = mul 2, 2; jump b1; b1: print 4; jump b2; b2: r2 = phi b1: 4; r3 = add r2, r1; print r3; return;",
	"b0: r0 = 2; r1 = mul 2, 2; jump b1; b1: print 4; jump b2; b2: r2 = phi b1: 4; r3 = add 4, r1; print r3; return;",
	"b0: r0 = 2; r1 = mul 2, 2; jump b1; b1: print 4; jump b2; b2: r2 = phi b1: 4; r3 = add 4, 4; print r3; return;",
	"b0: r0 = 2; r1 = mul 2, 2; jump b1; b1: print 4; jump b2; b2: r2 = phi b1: 4; r3 = add 4, 4; print 8; return;",
}

// P13.1: the first so many applications.
func TestMost(t *testing.T) {
	pass.ExpectSteps(t, "0 regs 4", steps, "b0:1 b0:1 b0:end b0:end/2 b1:0 b2:0 b2:1 b2:1 b2:2")
}

// P13.1: one function of a module; others stay as they are.
func TestOtherFunctions(t *testing.T) {
	const text = "main h; func f params 0 regs 2 { b0: r0 = 1; r1 = %s b1: return; b2: return; } func g params 0 regs 1 { b0: r0 = 1; print %s; return; } func h params 0 regs 1 { b0: r0 = 1; call f(); call g(); r0 = 1; return; }"
	pass.ExpectEach(t, text, samples.Part{Before: "r0; branch r1, b1, b2;", After: "1; jump b1;", Made: "b0:1 b0:end b0:end/2"}, samples.Part{Before: "r0", After: "1", Made: "b0:1"})
	pass.ExpectError(t, samples.Read(t, strings.NewReplacer("= %s", "= 1; return;", "%s", "1").Replace(text)), 2, samples.All(), api.ErrDown)
}

// P13.1: there is no greatest number of applications: 59 edges lead to a block with 100 phis.
func TestManyApplications(t *testing.T) {
	const phis, edges = 100, 59
	body := func(operand string) string {
		var s strings.Builder
		s.WriteString("b0: r1 = 7; branch r0, b59, b1; ")
		for b := 1; b < edges-1; b++ {
			fmt.Fprintf(&s, "b%d: branch r0, b59, b%d; ", b, b+1)
		}
		s.WriteString("b58: jump b59; b59: ")
		for i := range phis {
			fmt.Fprintf(&s, "r%d = phi b0: %s", 2+i, operand)
			for b := 1; b < edges; b++ {
				fmt.Fprintf(&s, ", b%d: %s", b, operand)
			}
			s.WriteString("; ")
		}
		return s.String() + "return;"
	}
	made := ""
	for i := range phis {
		made += strings.Repeat(fmt.Sprintf("b59:%d ", i), edges)
	}
	samples.ExpectRows(t, pass, samples.All(), []row{{"phis", fmt.Sprintf("1 regs %d", 2+phis), body("r1"), body("7"), made}})
}
