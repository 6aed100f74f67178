package fold_test

import (
	"fmt"
	"math"
	"testing"

	"cupel/api"
	"cupel/irsem"
	"cupel/samples"
)

// P13.1: parameters vary, and so does what is loaded, got, or the result of a call; copies have the fact of their operand.
func TestSources(t *testing.T) {
	samples.ExpectSoundRows(t, pass, []row{
		{"parameters", "2 regs 3 result", "b0: r2 = r1; print r0; print r2; return r1;", "b0: r2 = r1; print r0; print r2; return r1;", ""},
		{"a parameter that is always 0", "1 regs 2", "b0: r1 = mul r0, 0; print r1; return;", "b0: r1 = mul r0, 0; print r1; return;", ""},
		{"a load", "0 regs 1", "b0: r0 = load a0[0]; print r0; return;", "b0: r0 = load a0[0]; print r0; return;", ""},
		{"what was stored", "0 regs 1", "b0: store a0[0] = 3; r0 = load a0[0]; print r0; return;", "b0: store a0[0] = 3; r0 = load a0[0]; print r0; return;", ""},
		{"a cell", "0 regs 1", "b0: put c0 = 3; r0 = get c0; print r0; return;", "b0: put c0 = 3; r0 = get c0; print r0; return;", ""},
		{"a call", "0 regs 1", "b0: r0 = call g(1, 2; a0); print r0; return;", "b0: r0 = call g(1, 2; a0); print r0; return;", ""},
		{"copies", "0 regs 4 result", "b0: r3 = -7; r1 = r3; r0 = r1; return r0;", "b0: r3 = -7; r1 = -7; r0 = -7; return -7;", "b0:1 b0:2 b0:end"},
		{"copies of what varies", "1 regs 3 result", "b0: r1 = r0; r2 = r1; return r2;", "b0: r1 = r0; r2 = r1; return r2;", ""},
		{"an operation with what varies", "1 regs 4 result", "b0: r1 = 3; r2 = add r1, r0; r3 = sub r2, 1; return r3;", "b0: r1 = 3; r2 = add 3, r0; r3 = sub r2, 1; return r3;", "b0:1"},
		{"the same on both sides", "1 regs 3", "b0: r1 = sub r0, r0; r2 = eq r0, r0; print r1; branch r2, b1, b1; b1: return;", "b0: r1 = sub r0, r0; r2 = eq r0, r0; print r1; branch r2, b1, b1; b1: return;", ""},
		{"greatest and least", "0 regs 2", "b0: r0 = 9223372036854775807; r1 = add r0, 1; print r1; return;", "b0: r0 = 9223372036854775807; r1 = add 9223372036854775807, 1; print -9223372036854775808; return;", "b0:1 b0:2"},
	})
}

// P13.1: operations have the results of irsem.Bin, or vary if they trap.
func TestOperations(t *testing.T) {
	words := []string{"add", "sub", "mul", "div", "rem", "and", "or", "xor", "shl", "shr", "eq", "ne", "lt", "le"}
	values := []int64{0, 1, -1, 2, 3, -7, 63, 64, 65, 1 << 40, math.MaxInt64, math.MinInt64}
	for kind, word := range words {
		for _, a := range values {
			for _, b := range values {
				const code = "b0: r0 = %d; r1 = %s %v, %d; print %v; return;"
				var result any = "r1"
				made := "b0:1"
				if v, trap, _ := irsem.Bin(api.IbAdd+kind, a, b); !trap {
					result, made = v, "b0:1 b0:2"
				}
				r := row{word, "0 regs 2", fmt.Sprintf(code, a, word, "r0", b, "r1"), fmt.Sprintf(code, a, word, a, b, result), made}
				samples.ExpectRows(t, pass, samples.All(), []row{r})
				if kind != api.IbLt-api.IbAdd || a != b {
					samples.ExpectRows(t, pass, samples.All(api.FtEqualLess), []row{r})
				}
			}
		}
	}
}

// P13.1: what traps varies, and what is made of it; a phi has what belongs to executable edges.
func TestMeets(t *testing.T) {
	const two = "b0: r1 = 4; branch r0, b1, b2; b1: jump b3; b2: jump b3; "
	samples.ExpectSoundRows(t, pass, []row{
		{"a trap", "0 regs 3", "b0: r0 = 0; r1 = rem 5, r0; r2 = add r1, 1; print r2; return;", "b0: r0 = 0; r1 = rem 5, 0; r2 = add r1, 1; print r2; return;", "b0:1"},
		{"equal constants", "1 regs 3 result", two + "b3: r2 = phi b1: r1, b2: 4; return r2;", two + "b3: r2 = phi b1: 4, b2: 4; return 4;", "b3:0 b3:end"},
		{"equal registers", "1 regs 3 result", two + "b3: r2 = phi b1: r1, b2: r1; return r2;", two + "b3: r2 = phi b1: 4, b2: 4; return 4;", "b3:0 b3:0 b3:end"},
		{"different constants", "1 regs 3 result", two + "b3: r2 = phi b1: r1, b2: 5; return r2;", two + "b3: r2 = phi b1: 4, b2: 5; return r2;", "b3:0"},
		{"a constant and what varies", "1 regs 3 result", two + "b3: r2 = phi b1: r1, b2: r0; return r2;", two + "b3: r2 = phi b1: 4, b2: r0; return r2;", "b3:0"},
		{"what varies and a constant", "1 regs 3 result", two + "b3: r2 = phi b1: r0, b2: r1; return r2;", two + "b3: r2 = phi b1: r0, b2: 4; return r2;", "b3:0"},
		{"the same that varies", "1 regs 3 result", two + "b3: r2 = phi b1: r0, b2: r0; return r2;", two + "b3: r2 = phi b1: r0, b2: r0; return r2;", ""},
		{"an edge that is not executable", "1 regs 3 result", "b0: r1 = 4; branch r1, b1, b2; b1: jump b3; b2: jump b3; b3: r2 = phi b1: r1, b2: r0; return r2;", "b0: r1 = 4; jump b1; b1: jump b3; b2: jump b3; b3: r2 = phi b1: 4, b2: r0; return 4;", "b0:end b0:end/2 b3:0 b3:end"},
		{"a block that is not reached", "1 regs 3 result", "b0: r1 = 4; jump b2; b1: jump b2; b2: r2 = phi b0: r1, b1: r0; return r2;", "b0: r1 = 4; jump b2; b1: jump b2; b2: r2 = phi b0: 4, b1: r0; return 4;", "b2:0 b2:end"},
		{"an operand that is not executable stays", "0 regs 3 result", "b0: r1 = 4; jump b2; b1: r0 = 5; jump b2; b2: r2 = phi b0: r1, b1: r1; return r2;", "b0: r1 = 4; jump b2; b1: r0 = 5; jump b2; b2: r2 = phi b0: 4, b1: r1; return 4;", "b2:0 b2:end"},
		{"what executable edges say of each other", "0 regs 3 result", "b0: r0 = 1; branch r0, b1, b2; b1: r1 = 2; jump b3; b2: jump b3; b3: r2 = phi b1: r1, b2: 3; return r2;", "b0: r0 = 1; jump b1; b1: r1 = 2; jump b3; b2: jump b3; b3: r2 = phi b1: 2, b2: 3; return 2;", "b0:end b0:end/2 b3:0 b3:end"},
	})
}

// P13.1: the facts are the least ones, so that loops do not make vary what stays the same.
func TestLoops(t *testing.T) {
	samples.ExpectSoundRows(t, pass, []row{
		{"the example", "0 regs 1", "b0: jump b1; b1: r0 = phi b0: 1, b1: r0; print r0; jump b1;", "b0: jump b1; b1: r0 = phi b0: 1, b1: 1; print 1; jump b1;", "b1:0 b1:1"},
		{"counting", "0 regs 2", "b0: jump b1; b1: r0 = phi b0: 0, b1: r1; r1 = add r0, 1; print r0; jump b1;", "b0: jump b1; b1: r0 = phi b0: 0, b1: r1; r1 = add r0, 1; print r0; jump b1;", ""},
		{"an operation that changes nothing", "1 regs 3", "b0: jump b1; b1: r1 = phi b0: 6, b1: r2; r2 = or r1, 2; branch r0, b1, b2; b2: print r2; return;", "b0: jump b1; b1: r1 = phi b0: 6, b1: 6; r2 = or 6, 2; branch r0, b1, b2; b2: print 6; return;", "b1:0 b1:1 b2:0"},
		{"a way that is never gone", "1 regs 3", "b0: jump b1; b1: r1 = phi b0: 1, b4: r2; branch r1, b2, b3; b2: jump b4; b3: jump b4; b4: r2 = phi b2: r1, b3: 2; branch r0, b1, b5; b5: print r2; return;", "b0: jump b1; b1: r1 = phi b0: 1, b4: 1; jump b2; b2: jump b4; b3: jump b4; b4: r2 = phi b2: 1, b3: 2; branch r0, b1, b5; b5: print 1; return;", "b1:0 b1:end b1:end/2 b4:0 b5:0"},
		{"a way that is gone later", "1 regs 4", "b0: jump b1; b1: r1 = phi b0: 1, b4: r3; branch r1, b2, b3; b2: jump b4; b3: jump b4; b4: r2 = phi b2: r1, b3: 2; r3 = sub r1, 1; branch r0, b1, b5; b5: print r2; return;", "b0: jump b1; b1: r1 = phi b0: 1, b4: r3; branch r1, b2, b3; b2: jump b4; b3: jump b4; b4: r2 = phi b2: r1, b3: 2; r3 = sub r1, 1; branch r0, b1, b5; b5: print r2; return;", ""},
		{"two that exchange what is equal", "1 regs 3", "b0: jump b1; b1: r1 = phi b0: 3, b1: r2; r2 = phi b0: 3, b1: r1; branch r0, b1, b2; b2: print r1; return;", "b0: jump b1; b1: r1 = phi b0: 3, b1: 3; r2 = phi b0: 3, b1: 3; branch r0, b1, b2; b2: print 3; return;", "b1:0 b1:1 b2:0"},
		{"two that exchange what is not", "1 regs 3", "b0: jump b1; b1: r1 = phi b0: 3, b1: r2; r2 = phi b0: 4, b1: r1; branch r0, b1, b2; b2: print r1; return;", "b0: jump b1; b1: r1 = phi b0: 3, b1: r2; r2 = phi b0: 4, b1: r1; branch r0, b1, b2; b2: print r1; return;", ""},
	})
}

// P13.1: with a fault, less of equal constants is 1, but not of what varies, and no other operation.
func TestEqualLess(t *testing.T) {
	rows := []row{
		{"less", "0 regs 2", "b0: r0 = 3; r1 = lt r0, 3; print r1; return;", "b0: r0 = 3; r1 = lt 3, 3; print 1; return;", "b0:1 b0:2"},
		{"of constants", "0 regs 1", "b0: r0 = lt 3, 3; branch r0, b1, b2; b1: return; b2: return;", "b0: r0 = lt 3, 3; jump b1; b1: return; b2: return;", "b0:end b0:end/2"},
		{"truly less", "0 regs 2", "b0: r0 = lt 2, 3; r1 = lt 3, 2; print r0; print r1; return;", "b0: r0 = lt 2, 3; r1 = lt 3, 2; print 1; print 0; return;", "b0:2 b0:3"},
		{"of what varies", "1 regs 2", "b0: r1 = lt r0, r0; print r1; return;", "b0: r1 = lt r0, r0; print r1; return;", ""},
		{"others", "0 regs 3", "b0: r0 = ne 3, 3; r1 = le 3, 3; r2 = eq 3, 3; print r0; print r1; print r2; return;", "b0: r0 = ne 3, 3; r1 = le 3, 3; r2 = eq 3, 3; print 0; print 1; print 1; return;", "b0:3 b0:4 b0:5"},
	}
	samples.ExpectRows(t, pass, samples.All(api.FtEqualLess), rows)
	samples.ExpectRows(t, pass, samples.All(api.FtUndefined, api.FtEqualLess, api.FtFirstOnly, api.MaxFaults), rows)
	samples.ExpectSoundRows(t, pass, []row{{"no fault", "0 regs 1", "b0: r0 = lt 3, 3; branch r0, b1, b2; b1: return; b2: return;", "b0: r0 = lt 3, 3; jump b2; b1: return; b2: return;", "b0:end b0:end/2"}})
}

// P13.1: with a fault, a phi has the fact of the first one of its Args.
func TestFirstOnly(t *testing.T) {
	const two = "b0: r1 = 4; branch r0, b1, b2; b1: jump b3; b2: jump b3; "
	rows := []row{
		{"different constants", "1 regs 3", two + "b3: r2 = phi b1: 6, b2: r1; print r2; return;", two + "b3: r2 = phi b1: 6, b2: 4; print 6; return;", "b3:0 b3:1"},
		{"a constant and what varies", "1 regs 3", two + "b3: r2 = phi b1: r1, b2: r0; print r2; return;", two + "b3: r2 = phi b1: 4, b2: r0; print 4; return;", "b3:0 b3:1"},
		{"what varies and a constant", "1 regs 3", two + "b3: r2 = phi b1: r0, b2: 4; print r2; return;", two + "b3: r2 = phi b1: r0, b2: 4; print r2; return;", ""},
		{"counting", "0 regs 2", "b0: jump b1; b1: r0 = phi b0: 0, b1: r1; r1 = add r0, 1; print r1; jump b1;", "b0: jump b1; b1: r0 = phi b0: 0, b1: 1; r1 = add 0, 1; print 1; jump b1;", "b1:0 b1:1 b1:2"},
		// The first one belongs to an edge that is not executable.
		{"a way that is never gone", "1 regs 3", "b0: r1 = 0; branch r1, b1, b2; b1: jump b3; b2: jump b3; b3: r2 = phi b1: 6, b2: r1; print r2; return;", "b0: r1 = 0; jump b2; b1: jump b3; b2: jump b3; b3: r2 = phi b1: 6, b2: 0; print 6; return;", "b0:end b0:end/2 b3:0 b3:1"},
		{"what varies there", "1 regs 3", "b0: r1 = 0; branch r1, b1, b2; b1: jump b3; b2: jump b3; b3: r2 = phi b1: r0, b2: r1; print r2; return;", "b0: r1 = 0; jump b2; b1: jump b3; b2: jump b3; b3: r2 = phi b1: r0, b2: 0; print r2; return;", "b0:end b0:end/2 b3:0"},
		{"an edge that is left out", "0 regs 2", "b0: branch 1, b1, b2; b1: jump b2; b2: r0 = phi b0: 5, b1: 6; print r0; return;", "b0: jump b1; b1: jump b2; b2: r0 = phi b1: 6; print 5; return;", "b0:end/2 b2:1"},
		// Of the first one nothing is known: so it stays with what reads the phi, and with the blocks behind a branch by it.
		{"what is not defined", "0 regs 4", "b0: r0 = 2; jump b2; b1: jump b2; b2: r1 = phi b0: r0, b1: 3; jump b4; b3: jump b4; b4: r2 = phi b2: r0, b3: r3; print r1; return;", "b0: r0 = 2; jump b2; b1: jump b2; b2: r1 = phi b0: 2, b1: 3; jump b4; b3: jump b4; b4: r2 = phi b2: 2, b3: r3; print 2; return;", "b2:0 b4:0 b4:1"},
		{"a branch by what is not defined", "0 regs 4", "b0: r0 = 2; jump b2; b1: jump b3; b2: jump b3; b3: r1 = phi b1: r3, b2: r0; r2 = add r1, r0; print r2; branch r1, b4, b5; b4: print r0; return; b5: print r0; return;", "b0: r0 = 2; jump b2; b1: jump b3; b2: jump b3; b3: r1 = phi b1: r3, b2: 2; r2 = add r1, 2; print r2; branch r1, b4, b5; b4: print r0; return; b5: print r0; return;", "b3:0 b3:1"},
		{"what is defined by it alone", "0 regs 3", "b0: r0 = 2; jump b2; b1: jump b3; b2: jump b3; b3: r1 = phi b1: r2, b2: r0; r2 = add r1, 1; print r2; return;", "b0: r0 = 2; jump b2; b1: jump b3; b2: jump b3; b3: r1 = phi b1: r2, b2: 2; r2 = add r1, 1; print r2; return;", "b3:0"},
		{"what varies with it", "1 regs 4", "b0: r1 = 2; jump b2; b1: jump b3; b2: jump b3; b3: r2 = phi b1: r3, b2: r1; r3 = add r2, r0; branch r3, b4, b5; b4: print r1; return; b5: return;", "b0: r1 = 2; jump b2; b1: jump b3; b2: jump b3; b3: r2 = phi b1: r3, b2: 2; r3 = add r2, r0; branch r3, b4, b5; b4: print 2; return; b5: return;", "b3:0 b4:0"},
	}
	samples.ExpectRows(t, pass, samples.All(api.FtFirstOnly), rows)
	samples.ExpectRows(t, pass, samples.All(1, 2, api.FtFirstOnly, 5, 24), rows)
}

// P13.1: faults of other layers do not matter.
func TestOtherFaults(t *testing.T) {
	for fault := range api.MaxFaults + 1 {
		if fault == 0 || fault == api.FtEqualLess || fault == api.FtFirstOnly {
			continue
		}
		samples.ExpectRows(t, pass, samples.All(fault), []row{
			{"less", "0 regs 1", "b0: r0 = lt 3, 3; print r0; return;", "b0: r0 = lt 3, 3; print 0; return;", "b0:1"},
			{"a phi", "1 regs 2", "b0: branch r0, b1, b2; b1: jump b2; b2: r1 = phi b0: 1, b1: 2; print r1; return;", "b0: branch r0, b1, b2; b1: jump b2; b2: r1 = phi b0: 1, b1: 2; print r1; return;", ""},
			{"a division", "1 regs 2", "b0: r1 = div 4, 0; print r1; return;", "b0: r1 = div 4, 0; print r1; return;", ""},
		})
	}
}
