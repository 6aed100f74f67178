package peep_test

import (
	"fmt"
	"slices"
	"strings"
	"testing"

	"cupel/api"
	"cupel/samples"
)

var words = []string{"add", "sub", "mul", "div", "rem", "and", "or", "xor", "shl", "shr", "eq", "ne", "lt", "le"}

const (
	least    = "-9223372036854775808"
	greatest = "9223372036854775807"
)

// becomes is a row of a single operation and what it becomes, by these rules one after the other.
func becomes(operation, other string, rules ...int) row {
	const code = "b0: print r0; r2 = %s; print r2; return;"
	made := ""
	for _, rule := range rules {
		made += fmt.Sprintf("b0:1/%d ", rule)
	}
	return row{operation, "2 regs 3", fmt.Sprintf(code, operation), fmt.Sprintf(code, other), made}
}

func stays(operation string) row { return becomes(operation, operation) }

// all is a row for each of these operations, written with commas, which become the same.
func all(operations, other string, rules ...int) []row {
	var rows []row
	for _, operation := range strings.Split(operations, "; ") {
		rows = append(rows, becomes(operation, other, rules...))
	}
	return rows
}

// P16.1, rule 1: an operation of constants becomes a copy of its result, unless it traps.
func TestConstants(t *testing.T) {
	samples.ExpectSoundRows(t, pass, []row{
		becomes("add 2, 3", "5", 1), becomes("add "+greatest+", 1", least, 1),
		becomes("sub 2, 3", "-1", 1), becomes("sub "+least+", 1", greatest, 1), becomes("sub 0, "+least, least, 1),
		becomes("mul 7, -3", "-21", 1), becomes("mul 4294967296, 4294967296", "0", 1),
		becomes("div -7, 2", "-3", 1), becomes("div "+least+", -1", least, 1), becomes("div 0, 5", "0", 1),
		becomes("rem -7, 2", "-1", 1), becomes("rem "+least+", -1", "0", 1), becomes("rem 7, -2", "1", 1),
		becomes("and 12, 10", "8", 1), becomes("or 12, 10", "14", 1), becomes("xor 12, -1", "-13", 1),
		becomes("shl 1, 63", least, 1), becomes("shl 1, 65", "2", 1), becomes("shl 3, -63", "6", 1), becomes("shl 5, 64", "5", 1),
		becomes("shr -8, 1", "-4", 1), becomes("shr -8, 64", "-8", 1), becomes("shr "+least+", -1", "-1", 1),
		becomes("eq 4, 4", "1", 1), becomes("eq 4, 5", "0", 1), becomes("ne 4, 4", "0", 1), becomes("ne 4, 5", "1", 1),
		becomes("lt 4, 4", "0", 1), becomes("lt -1, 0", "1", 1), becomes("le 4, 4", "1", 1), becomes("le 0, "+least, "0", 1),
	})
	samples.ExpectSoundRows(t, pass, []row{
		stays("div 1, 0"), stays("div 0, 0"), stays("rem 1, 0"), stays("rem 0, 0"), stays("rem " + least + ", 0"),
	})
}

// P16.1, rule 2: a constant becomes the operand B where operands may be exchanged.
func TestTurn(t *testing.T) {
	turns := strings.Fields("add mul and or xor eq ne")
	var rows []row
	for _, word := range words {
		for _, c := range []string{"3", "-7", greatest} {
			if slices.Contains(turns, word) {
				rows = append(rows, becomes(word+" "+c+", r1", word+" r1, "+c, 2))
			} else {
				rows = append(rows, stays(word+" "+c+", r1"))
			}
		}
		rows = append(rows, stays(word+" r0, r1"), stays(word+" r1, r0"))
		if word != "sub" {
			rows = append(rows, stays(word+" r0, 3"), stays(word+" r0, -7"))
		}
	}
	samples.ExpectSoundRows(t, pass, rows)
}

// P16.1, rule 3: operations that change nothing.
func TestNeutral(t *testing.T) {
	samples.ExpectSoundRows(t, pass, all("add r0, 0; sub r0, 0; or r0, 0; xor r0, 0; mul r0, 1; div r0, 1; and r0, -1; shl r0, 0; shr r0, 0; shl r0, 64; shr r0, 64; shl r0, -64; shr r0, -128; shl r0, 6400; shr r0, 4611686018427387904; shl r0, "+least+"; shr r0, "+least, "r0", 3))
	samples.ExpectSoundRows(t, pass, all("add 0, r0; or 0, r0; xor 0, r0; mul 1, r0; and -1, r0", "r0", 2, 3))
	samples.ExpectSoundRows(t, pass, []row{
		stays("sub 0, r0"), stays("shl 0, r0"), stays("shr 0, r0"), stays("shl 64, r0"), stays("div 1, r0"), stays("rem 0, r0"), stays("div 0, r0"),
		stays("shl r0, 1"), stays("shr r0, 1"), stays("shl r0, 63"), stays("shr r0, 65"), stays("shl r0, -1"), stays("shr r0, -63"), stays("shl r0, 32"),
		stays("add r0, 1"), stays("xor r0, -1"), stays("xor r0, 1"), stays("and r0, 1"), stays("or r0, 1"), stays("rem r0, 0"), stays("div r0, 0"),
		stays("eq r0, 0"), stays("ne r0, 0"), stays("lt r0, 0"), stays("le r0, 0"), stays("eq r0, 1"), stays("ne r0, -1"),
	})
}

// P16.1, rules 4 and 5: operations that have one result.
func TestZeroAndOnes(t *testing.T) {
	samples.ExpectSoundRows(t, pass, all("mul r1, 0; and r1, 0; rem r1, 1; rem r1, -1", "0", 4))
	samples.ExpectSoundRows(t, pass, all("mul 0, r1; and 0, r1", "0", 2, 4))
	samples.ExpectSoundRows(t, pass, append(all("or r1, -1", "-1", 5), becomes("or -1, r1", "-1", 2, 5)))
	samples.ExpectSoundRows(t, pass, []row{
		stays("rem r1, 2"), stays("rem r1, -2"), stays("rem r1, " + least), stays("rem 1, r1"), stays("rem -1, r1"), stays("mul r1, -1"), stays("add r1, -1"), stays("or r1, -2"),
	})
}

// P16.1, rule 6: operations of a register and itself.
func TestSelf(t *testing.T) {
	results := map[string]string{"sub": "0", "xor": "0", "and": "r1", "or": "r1", "eq": "1", "le": "1", "ne": "0", "lt": "0"}
	var rows []row
	for _, word := range words {
		if result := results[word]; result != "" {
			rows = append(rows, becomes(word+" r1, r1", result, 6))
		} else {
			rows = append(rows, stays(word+" r1, r1"))
		}
	}
	samples.ExpectSoundRows(t, pass, rows)
}

// P16.1, rules 7 to 9: other operations by constants.
func TestOthers(t *testing.T) {
	samples.ExpectSoundRows(t, pass, []row{
		becomes("div r0, -1", "sub 0, r0", 7), stays("div r0, -2"), stays("div -1, r0"), stays("div r0, " + least),
		becomes("sub r0, 3", "add r0, -3", 9), becomes("sub r0, -3", "add r0, 3", 9), becomes("sub r0, 1", "add r0, -1", 9), becomes("sub r0, -1", "add r0, 1", 9),
		becomes("sub r0, "+greatest, "add r0, -"+greatest, 9), becomes("sub r0, "+least, "add r0, "+least, 9), stays("sub 3, r0"),
		stays("mul r0, " + least), stays("mul r0, -2"), stays("mul r0, -4"), stays("mul r0, 3"), stays("mul r0, 6"), stays("mul r0, " + greatest), stays("mul r0, 4611686018427387905"), stays("mul r0, -4611686018427387904"),
	})
	samples.ExpectSoundRows(t, pass, powers("mul r1, %d", "shl r1, %d", 8))
	samples.ExpectSoundRows(t, pass, powers("mul %d, r1", "shl r1, %d", 2, 8))
	samples.ExpectSoundRows(t, pass, powers("rem r1, %d", ""))
}

// powers are rows of an operation by each power of 2 that becomes one by its logarithm (by no rules: that stays).
func powers(operation, other string, rules ...int) []row {
	var rows []row
	for n := 1; n <= 62; n++ {
		before := fmt.Sprintf(operation, int64(1)<<n)
		if len(rules) == 0 {
			rows = append(rows, stays(before))
		} else {
			rows = append(rows, becomes(before, fmt.Sprintf(other, n), rules...))
		}
	}
	return rows
}

// P16.1, rule 17: with a fault, a division by a power of 2 becomes a shift.
func TestShiftFault(t *testing.T) {
	samples.ExpectSoundRows(t, pass, powers("div r1, %d", ""))
	samples.ExpectRows(t, pass, samples.All(api.FtNotLess), powers("div r1, %d", ""))
	for _, faults := range [][]int{{api.FtShift}, {api.FtShift, api.FtNotLess}, {api.FtUndefined, api.FtOverGet, api.FtShift, api.FtStores, api.MaxFaults}} {
		samples.ExpectRows(t, pass, samples.All(faults...), powers("div r1, %d", "shr r1, %d", 17))
		samples.ExpectRows(t, pass, samples.All(faults...), powers("rem r1, %d", ""))
		samples.ExpectRows(t, pass, samples.All(faults...), []row{
			stays("div r1, 3"), stays("div r1, -2"), stays("div r1, " + least), stays("div r1, 0"), stays("div 4, r1"), stays("div r1, r1"), stays("div r0, r1"), stays("div 4, 0"),
			becomes("div r1, 1", "r1", 3), becomes("div r1, -1", "sub 0, r1", 7), becomes("div 8, 4", "2", 1), becomes("mul r1, 4", "shl r1, 2", 8),
		})
	}
}
