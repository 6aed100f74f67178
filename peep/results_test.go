package peep_test

import (
	"fmt"
	"slices"
	"strings"
	"testing"

	"cupel/api"
	"cupel/samples"
)

// chain is a row of an operation r2, and another one, r3, which becomes something by these rules one after the other.
func chain(first, second, other string, rules ...int) row {
	const code = "b0: print r1; r2 = %s; r3 = %s; print r2; print r3; return;"
	made := ""
	for _, rule := range rules {
		made += fmt.Sprintf("b0:2/%d ", rule)
	}
	return row{first + "; " + second, "2 regs 4", fmt.Sprintf(code, first, second), fmt.Sprintf(code, first, other), made}
}

func chainStays(first, second string) row { return chain(first, second, second) }

// P16.1, rules 10 to 12: constants are put together.
func TestJoined(t *testing.T) {
	samples.ExpectSoundRows(t, pass, []row{
		chain("add r0, 3", "add r2, 4", "add r0, 7", 10),
		chain("add r0, 3", "add 4, r2", "add r0, 7", 2, 10),
		chain("add r0, 3", "sub r2, 4", "add r0, -1", 9, 10),
		chain("add r0, 3", "sub r2, 3", "r0", 9, 10, 3),
		chain("add r0, 3", "add r2, -3", "r0", 10, 3),
		chain("add r0, "+greatest, "add r2, 2", "add r0, -9223372036854775807", 10),
		chain("add r0, "+least, "add r2, "+least, "r0", 10, 3),
		chain("add r0, "+least, "sub r2, "+least, "r0", 9, 10, 3),
		chain("and r0, 12", "and r2, 10", "and r0, 8", 11),
		chain("and r0, 12", "and 3, r2", "0", 2, 11, 4),
		chain("or r0, 12", "or r2, 10", "or r0, 14", 11),
		chain("or r0, -4", "or r2, 3", "-1", 11, 5),
		chain("xor r0, 12", "xor r2, 10", "xor r0, 6", 11),
		chain("xor r0, 12", "xor r2, 12", "r0", 11, 3),
		chain("mul r0, 3", "mul r2, 5", "mul r0, 15", 12),
		chain("mul r0, 3", "mul -5, r2", "mul r0, -15", 2, 12),
		chain("mul r0, -1", "mul r2, -1", "r0", 12, 3),
		chain("mul r0, -1", "mul r2, "+least, "mul r0, "+least, 12),
		chain("mul r0, 6148914691236517205", "mul r2, 3", "mul r0, -1", 12),
		chain("mul r0, -3", "mul r2, -6148914691236517206", "shl r0, 1", 12, 8),
		chain("mul r0, "+least, "mul r2, -10", "0", 12, 4),
	})
	var rows []row
	for _, first := range words {
		for _, second := range []string{"add", "and", "or", "xor", "mul"} {
			if first != second && first != "sub" {
				rows = append(rows, chainStays(first+" r0, 7", second+" r2, 7"))
			}
			rows = append(rows, chainStays(first+" r0, r1", second+" r2, 7"), chainStays("add r0, 7", second+" r2, r0"), chainStays("add r0, 7", second+" r0, r2"))
			if !slices.Contains([]string{"add", "mul", "and", "or", "xor", "eq", "ne"}, first) {
				rows = append(rows, chainStays(first+" 7, r0", second+" r2, 7"))
			}
		}
	}
	samples.ExpectSoundRows(t, pass, rows)
}

// P16.1, rule 12 comes after the rule 8, and there is none for shifts and products.
func TestProducts(t *testing.T) {
	samples.ExpectSoundRows(t, pass, []row{
		chain("mul r0, 3", "mul r2, 4", "shl r2, 2", 8),
		chainStays("shl r0, 2", "mul r2, 3"),
		chain("shl r0, 2", "mul r2, 8", "shl r0, 5", 8, 13),
		chainStays("mul r0, 3", "shl r2, 2"),
	})
}

// P16.1, rule 13: shifts to the left are put together, as long as they are less than 64.
func TestShifts(t *testing.T) {
	samples.ExpectSoundRows(t, pass, []row{
		chain("shl r0, 1", "shl r2, 1", "shl r0, 2", 13),
		chain("shl r0, 60", "shl r2, 3", "shl r0, 63", 13),
		chain("shl r0, 1", "shl r2, 62", "shl r0, 63", 13),
		chain("shl r0, 65", "shl r2, 130", "shl r0, 3", 13),
		chain("shl r0, -63", "shl r2, -2", "shl r0, 63", 13),
		chain("shl r0, "+greatest, "shl r2, 128", "r2", 3),
		chainStays("shl r0, 60", "shl r2, 4"),
		chainStays("shl r0, 63", "shl r2, 1"),
		chainStays("shl r0, 63", "shl r2, 63"),
		chainStays("shl r0, -1", "shl r2, 1"),
		chainStays("shl r0, 1", "shl r2, r0"),
		chainStays("shl r0, r1", "shl r2, 1"),
		chainStays("shl 1, r0", "shl r2, 1"),
		chainStays("shl r0, 1", "shl 1, r2"),
		chainStays("shr r0, 1", "shr r2, 1"),
		chainStays("shr r0, 1", "shl r2, 1"),
		chainStays("shl r0, 1", "shr r2, 1"),
	})
	samples.ExpectRows(t, pass, samples.All(api.FtShift), []row{
		chain("shr r0, 1", "div r2, 2", "shr r2, 1", 17),
		chain("shl r0, 1", "div r2, 2", "shr r2, 1", 17),
	})
}

// P16.1, rule 14: 0 minus what is 0 minus something.
func TestTwice(t *testing.T) {
	samples.ExpectSoundRows(t, pass, []row{
		chain("sub 0, r0", "sub 0, r2", "r0", 14),
		chain("sub 0, r0", "div r2, -1", "r0", 7, 14),
		chainStays("sub 0, r0", "sub 1, r2"),
		chainStays("sub 0, r0", "sub r0, r2"),
		chainStays("sub 0, r0", "sub r2, r0"),
		chainStays("sub 1, r0", "sub 0, r2"),
		chainStays("sub r1, r0", "sub 0, r2"),
		chainStays("sub 0, r0", "add r2, 5"),
		chainStays("xor r0, -1", "sub 0, r2"),
		chainStays("shr 0, r0", "sub 0, r2"),
		chainStays("sub 0, r1", "shl 0, r2"),
		{"a division", "1 regs 3 result", "b0: r1 = div r0, -1; r2 = sub 0, r1; return r2;", "b0: r1 = sub 0, r0; r2 = r0; return r2;", "b0:0/7 b0:1/14"},
	})
}

// P16.1, rules 15 and 16: what is asked of comparisons.
func TestTruth(t *testing.T) {
	opposites := map[string]string{"eq r0, r1": "ne r0, r1", "ne r0, r1": "eq r0, r1", "lt r0, r1": "le r1, r0", "le r0, r1": "lt r1, r0", "eq r0, 7": "ne r0, 7", "ne r0, -7": "eq r0, -7", "lt r0, 7": "le 7, r0", "lt 7, r0": "le r0, 7", "le r0, 0": "lt 0, r0", "le 0, r0": "lt r0, 0"}
	for is, opposite := range opposites {
		rows := []row{
			chain(is, "eq r2, 0", opposite, 16), chain(is, "eq 0, r2", opposite, 2, 16),
			chain(is, "ne r2, 0", "r2", 15), chain(is, "ne 0, r2", "r2", 2, 15),
			chainStays(is, "eq r2, 1"), chainStays(is, "ne r2, 1"), chainStays(is, "eq r2, r0"), chainStays(is, "ne r0, r2"), chainStays(is, "lt r2, 0"), chainStays(is, "le r2, 0"), chainStays(is, "lt 0, r2"),
		}
		samples.ExpectSoundRows(t, pass, rows)
		samples.ExpectRows(t, pass, samples.All(api.FtShift), rows)
		for _, faults := range [][]int{{api.FtNotLess}, {api.FtEqualLess, api.FtShift, api.FtNotLess, api.FtTrap}} {
			if word, operands, _ := strings.Cut(is, " "); word == "lt" {
				a, b, _ := strings.Cut(operands, ", ")
				opposite = "lt " + b + ", " + a
				rows[0], rows[1] = chain(is, "eq r2, 0", opposite, 16), chain(is, "eq 0, r2", opposite, 2, 16)
			}
			samples.ExpectRows(t, pass, samples.All(faults...), rows)
		}
	}
	for _, word := range words[:10] {
		samples.ExpectSoundRows(t, pass, []row{chainStays(word+" r0, r1", "eq r2, 0"), chainStays(word+" r0, r1", "ne r2, 0")})
	}
	samples.ExpectSoundRows(t, pass, []row{
		same("what is no operation", "2 regs 7", "b0: r2 = get c0; r3 = eq r2, 0; r4 = ne r2, 0; r5 = eq r0, 0; r6 = ne r1, 0; print r3; print r4; print r5; print r6; return;"),
		{"not not", "2 regs 6", "b0: r2 = lt r0, r1; r3 = eq r2, 0; r4 = eq r3, 0; r5 = eq r4, 0; print r3; print r4; print r5; return;", "b0: r2 = lt r0, r1; r3 = le r1, r0; r4 = lt r0, r1; r5 = le r1, r0; print r3; print r4; print r5; return;", "b0:1/16 b0:2/16 b0:3/16"},
	})
}

// P16.1: what an operand is the result of, wherever that is, as it is then; copies, phis and others are no operations.
func TestResults(t *testing.T) {
	samples.ExpectSoundRows(t, pass, []row{
		{"the example", "1 regs 3", "b0: r1 = add 3, r0; r2 = add r1, 4; print r2; return;", "b0: r1 = add r0, 3; r2 = add r0, 7; print r2; return;", "b0:0/2 b0:1/10"},
		{"several in a row", "1 regs 5", "b0: r1 = add r0, 1; r2 = add r1, 2; r3 = add r2, 4; r4 = sub r3, 8; print r4; return;", "b0: r1 = add r0, 1; r2 = add r0, 3; r3 = add r0, 7; r4 = add r0, -1; print r4; return;", "b0:1/10 b0:2/10 b0:3/9 b0:3/10"},
		{"in another block, which has a higher number", "1 regs 3", "b0: jump b2; b1: r2 = add r1, 4; print r2; return; b2: r1 = add 3, r0; jump b1;", "b0: jump b2; b1: r2 = add r0, 7; print r2; return; b2: r1 = add r0, 3; jump b1;", "b2:0/2 b1:0/10"},
		{"in a block far above", "1 regs 4", "b0: r1 = mul r0, 3; branch r0, b1, b2; b1: jump b3; b2: jump b3; b3: r2 = mul r1, 5; print r2; return;", "b0: r1 = mul r0, 3; branch r0, b1, b2; b1: jump b3; b2: jump b3; b3: r2 = mul r0, 15; print r2; return;", "b3:0/12"},
		{"of a phi", "1 regs 4", "b0: jump b1; b1: r1 = phi b0: r0, b1: r3; r2 = add r1, 3; r3 = sub r2, 4; branch r3, b1, b2; b2: print r3; return;", "b0: jump b1; b1: r1 = phi b0: r0, b1: r3; r2 = add r1, 3; r3 = add r1, -1; branch r3, b1, b2; b2: print r3; return;", "b1:2/9 b1:2/10"},
		same("a copy", "1 regs 4", "b0: r1 = add r0, 3; r2 = r1; r3 = add r2, 4; print r3; return;"),
		same("a phi", "1 regs 4", "b0: r1 = add r0, 3; jump b1; b1: r2 = phi b0: r1; r3 = add r2, 4; print r3; return;"),
		same("a phi alone", "1 regs 2", "b0: jump b1; b1: r1 = phi b0: r0, b1: r1; print r1; branch r1, b1, b2; b2: return;"),
		same("a load, a get and a call", "2 regs 8", "b0: r2 = load a0[1]; r3 = add r2, 4; r4 = get c0; r5 = eq r4, 0; r6 = call g(r3, r5; a0); r7 = add r6, 4; print r7; return;"),
		{"what has become a copy", "1 regs 4", "b0: r1 = add r0, 3; r2 = sub r1, 3; r3 = add r2, 4; print r3; return;", "b0: r1 = add r0, 3; r2 = r0; r3 = add r2, 4; print r3; return;", "b0:1/9 b0:1/10 b0:1/3"},
		same("other instructions", "2 regs 4 result", "b0: r2 = r0; store a0[r2] = 7; put c0 = r2; print 3; r3 = load a1[2]; check 1, 4; check r0, r1; return r3;"),
	})
}
