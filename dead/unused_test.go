package dead_test

import (
	"fmt"
	"strings"
	"testing"

	"cupel/api"
	"cupel/samples"
)

// left is a row of a single instruction that is left out by a rule; the result is used in none of its blocks.
func left(instr string, rule int) row {
	return row{instr, "2 regs 3", "b0: print r0; " + instr + "; print r1; return;", "b0: print r0; print r1; return;", fmt.Sprintf("b0:1/%d", rule)}
}

// stays is one of an instruction that is not left out.
func stays(instr string) row {
	return same(instr, "2 regs 3", "b0: print r0; "+instr+"; print r1; return;")
}

var (
	words    = []string{"add", "sub", "mul", "and", "or", "xor", "shl", "shr", "eq", "ne", "lt", "le"}
	divisors = []string{"1", "-1", "2", "-2", "255", "9223372036854775807", "-9223372036854775808"}
)

// P15.1, rule 1: what is not used is left out, if it cannot trap and does nothing else.
func TestUnused(t *testing.T) {
	var rows []row
	for _, value := range []string{"r0", "r1", "0", "-7", "load a0[r0]", "load a1[0]", "load a2[-1]", "load a3[r1]", "get c0", "get c1"} {
		rows = append(rows, left("r2 = "+value, 1))
	}
	for _, word := range words {
		for _, operands := range []string{"r0, r1", "r0, 0", "0, r1", "1, 0"} {
			rows = append(rows, left("r2 = "+word+" "+operands, 1))
		}
	}
	samples.ExpectSoundRows(t, pass, append(rows,
		stays("r2 = call g(r0, r1; a0)"),
		stays("call g(r0, 0; a0)"),
		stays("check r0, r1"),
		stays("store a2[r0] = 1"),
		stays("put c0 = r0"),
		stays("print 1"),
	))
}

// P15.1, rule 1: divisions are left out only if they divide by a constant that is not 0; with a fault, always.
func TestDivisions(t *testing.T) {
	var safe, unsafe, faulty []row
	for _, word := range []string{"div", "rem"} {
		for _, a := range []string{"r0", "0", "5"} {
			for _, b := range divisors {
				safe = append(safe, left("r2 = "+word+" "+a+", "+b, 1))
			}
			for _, b := range []string{"r0", "r1", "0"} {
				instr := "r2 = " + word + " " + a + ", " + b
				unsafe, faulty = append(unsafe, stays(instr)), append(faulty, left(instr, 1))
			}
		}
	}
	samples.ExpectSoundRows(t, pass, append(safe, unsafe...))
	for _, faults := range [][]int{{api.FtDivision}, {api.FtUndefined, api.FtDivision, api.FtOverGet, api.MaxFaults}} {
		samples.ExpectRows(t, pass, samples.All(faults...), append(faulty, safe...))
	}
	samples.ExpectRows(t, pass, samples.All(api.FtOverCall, api.FtOverGet, api.FtShift), unsafe)
	samples.ExpectRows(t, pass, samples.All(api.FtDivision), []row{
		same("a division that is used", "2 regs 3", "b0: r2 = div r0, r1; print r2; return;"),
		same("a check", "2 regs 2", "b0: check r0, r1; return;"),
		same("a call", "2 regs 3", "b0: r2 = call g(r0, r1; a0); return;"),
	})
	samples.ExpectSoundRows(t, pass, []row{
		same("a division that is used", "1 regs 2", "b0: r1 = div r0, 2; print r1; return;"),
	})
}

// P15.1: instructions and ends use their operands, in each place.
func TestUses(t *testing.T) {
	var rows []row
	for _, code := range []string{
		"r3 = r2; print r3; return 0;", "r3 = add r2, 1; print r3; return 0;", "r3 = add 1, r2; print r3; return 0;",
		"r3 = div 5, r2; return 0;", "r3 = rem r2, 0; return 0;", "check r2, 1; return 0;", "check 1, r2; return 0;",
		"r3 = load a0[r2]; print r3; return 0;", "store a2[r2] = 1; return 0;", "store a3[1] = r2; return 0;", "put c1 = r2; return 0;", "print r2; return 0;",
		"call g(r2, 1; a0); return 0;", "r3 = call g(1, r2; a0); return 0;", "branch r2, b1, b1; b1: return 0;", "return r2;",
		"jump b1; b1: r3 = phi b0: r2; return r3;", "branch r0, b1, b2; b1: jump b2; b2: r3 = phi b0: r1, b1: r2; return r3;",
	} {
		for _, value := range []string{"r1", "load a0[r0]", "get c0", "mul r0, r1", "rem r0, 3"} {
			rows = append(rows, same(code, "2 regs 4 result", "b0: r2 = "+value+"; "+code))
		}
	}
	samples.ExpectSoundRows(t, pass, append(rows,
		same("a phi", "2 regs 3 result", "b0: branch r0, b1, b2; b1: jump b2; b2: r2 = phi b0: r1, b1: 7; return r2;"),
		row{"a return without a result", "2 regs 3", "b0: r2 = 1; return;", "b0: return;", "b0:0"},
		row{"a trap", "2 regs 3", "b0: r2 = 1; trap;", "b0: trap;", "b0:0"},
		row{"the register 0", "0 regs 1", "b0: r0 = get c0; print 0; check 0, r0; return;", "b0: r0 = get c0; print 0; check 0, r0; return;", ""},
		row{"constants are no registers", "0 regs 2", "b0: r0 = 5; r1 = 6; print 1; put c0 = 0; return;", "b0: print 1; put c0 = 0; return;", "b0:1 b0:0"},
	))
}

// P15.1, rule 1: phis that are not used are left out; those that use themselves stay, or each other.
func TestPhis(t *testing.T) {
	const two = "b0: branch r0, b1, b2; b1: jump b3; b2: jump b3; b3: "
	const loop = "b0: jump b1; b1: "
	const back = "branch r0, b1, b2; b2: return;"
	samples.ExpectSoundRows(t, pass, []row{
		{"one", "1 regs 2", two + "r1 = phi b1: r0, b2: 1; return;", two + "return;", "b3:0"},
		{"the first and the last one", "1 regs 4 result", two + "r1 = phi b1: r0, b2: 1; r2 = phi b1: 2, b2: 3; r3 = phi b1: 4, b2: r0; return r2;", two + "r2 = phi b1: 2, b2: 3; return r2;", "b3:2 b3:0"},
		{"the middle one", "1 regs 4 result", two + "r1 = phi b1: r0, b2: 1; r2 = phi b1: 2, b2: 3; r3 = phi b1: 4, b2: r0; check r1, 9; return r3;", two + "r1 = phi b1: r0, b2: 1; r3 = phi b1: 4, b2: r0; check r1, 9; return r3;", "b3:1"},
		{"of a loop", "1 regs 2", loop + "r1 = phi b0: r0, b1: 3; " + back, loop + back, "b1:0"},
		{"with what is used by it alone", "1 regs 3", "b0: r1 = get c0; jump b1; b1: r2 = phi b0: r1; return;", loop + "return;", "b1:0 b0:0"},
		same("itself", "1 regs 2", loop+"r1 = phi b0: r0, b1: r1; "+back),
		same("itself, behind another one", "1 regs 2", loop+"r1 = phi b0: r0, b1: 1, b2: r1; branch r0, b1, b2; b2: branch r1, b1, b3; b3: return;"),
		same("itself by a sum", "1 regs 3", loop+"r1 = phi b0: r0, b1: r2; r2 = add r1, 1; "+back),
		same("each other", "1 regs 3", loop+"r1 = phi b0: r0, b1: r2; r2 = phi b0: 1, b1: r1; "+back),
		{"one that uses another one", "1 regs 3", loop + "r1 = phi b0: r0, b1: r2; r2 = phi b0: 1, b1: 2; " + back, loop + back, "b1:0 b1:0"},
		{"one that is used by another one", "1 regs 3", loop + "r1 = phi b0: r0, b1: 3; r2 = phi b0: 1, b1: r1; " + back, loop + back, "b1:1 b1:0"},
	})
}

// P15.1, rule 1: what is used by what has been left out, in the same sweep or in the next one.
func TestChains(t *testing.T) {
	samples.ExpectSoundRows(t, pass, []row{
		{"the example", "1 regs 4", "b0: r1 = add r0, 1; r2 = mul r1, 2; r3 = div 5, r0; return;", "b0: r3 = div 5, r0; return;", "b0:1 b0:0"},
		{"used twice", "1 regs 4", "b0: r1 = add r0, 1; r2 = mul r1, r1; r3 = sub r1, 2; return;", "b0: return;", "b0:2 b0:1 b0:0"},
		{"used twice, once by what stays", "1 regs 4", "b0: r1 = add r0, 1; r2 = mul r1, r1; r3 = sub r1, 2; print r2; return;", "b0: r1 = add r0, 1; r2 = mul r1, r1; print r2; return;", "b0:2"},
		{"used by a check, a store and a put", "1 regs 4", "b0: r1 = 0; store a0[r1] = r1; r2 = 2; put c0 = r2; put c0 = 3; check 0, 1; return;", "b0: put c0 = 3; return;", "b0:5/2 b0:3/4 b0:2 b0:1/3 b0:0"},
		{"used in a block before, by its number", "1 regs 3", "b0: jump b2; b1: r2 = add r1, 1; return; b2: r1 = add r0, 1; jump b1;", "b0: jump b2; b1: return; b2: jump b1;", "b1:0 b2:0"},
		{"used in a block behind, by its number", "1 regs 3", "b0: jump b1; b1: r1 = add r0, 1; jump b2; b2: r2 = add r1, 1; return;", "b0: jump b1; b1: jump b2; b2: return;", "b2:0 b1:0"},
	})
}

// P15.1: each sweep goes through the blocks from the last one on, so that it leaves out one of these sums alone.
func TestManySweeps(t *testing.T) {
	before, after, made := "b0: jump b59; ", "b0: jump b59; ", ""
	for b := 1; b < 60; b++ {
		end := fmt.Sprintf("jump b%d; ", b-1)
		if b == 1 {
			end = "return; "
		}
		before += fmt.Sprintf("b%d: r%d = add r%d, 1; ", b, 60-b, 59-b) + end
		after += fmt.Sprintf("b%d: ", b) + end
		made += fmt.Sprintf("b%d:0 ", b)
	}
	samples.ExpectSoundRows(t, pass, []row{{"sums", "1 regs 60", strings.TrimSpace(before), strings.TrimSpace(after), made}})
}
