package hoist_test

import (
	"fmt"
	"slices"
	"strings"
	"testing"

	"cupel/api"
	"cupel/samples"
)

// looped is a row of a loop that is gone through three times: of its code some stands ahead of it then, and the rest stays.
func looped(what, code, ahead, rest, made string) row {
	const body = "b0: %sjump b1; b1: r2 = phi b0: 3, b1: r3; r3 = sub r2, 1; %sbranch r3, b1, b2; b2: return;"
	return row{what, "2 regs 9", fmt.Sprintf(body, "", code), fmt.Sprintf(body, ahead, rest), made}
}

// stays is a row of a loop of which nothing is moved.
func stays(what, code string) row { return looped(what, code, "", code, "") }

// one is a row of a single instruction for r4 in a loop, which is printed, behind some code.
func one(what, code, value string, isMoved bool) row {
	x := "r4 = " + value + "; "
	if !isMoved {
		return stays(what+value, code+x+"print r4; ")
	}
	return looped(what+value, code+x+"print r4; ", x, code+"print r4; ", fmt.Sprintf("b1:%d/2", 2+strings.Count(code, ";")))
}

// P17.1: the examples of the chapter.
func TestExamples(t *testing.T) {
	divides := row{"a division", "1 regs 2", "b0: jump b1; b1: r1 = div 5, r0; print r1; branch r0, b1, b2; b2: return;", "b0: r1 = div 5, r0; jump b1; b1: print r1; branch r0, b1, b2; b2: return;", "b1:0/2"}
	samples.ExpectSoundRows(t, pass, []row{
		{"a sum", "1 regs 2", "b0: jump b1; b1: r1 = add r0, 1; print r1; branch r0, b1, b2; b2: return;", "b0: r1 = add r0, 1; jump b1; b1: print r1; branch r0, b1, b2; b2: return;", "b1:0/2"},
		{"a sum, and a branch", "1 regs 2", "b0: branch r0, b1, b2; b1: r1 = add r0, 1; print r1; branch r0, b1, b2; b2: return;", "b0: branch r0, b3, b2; b1: print r1; branch r0, b1, b2; b2: return; b3: r1 = add r0, 1; jump b1;", "b1:end/1 b1:0/2"},
		same(divides.What, divides.Head, divides.Before),
	})
	samples.ExpectRows(t, pass, samples.All(api.FtTrap), []row{divides})
}

// P17.1, rule 2: copies, whose operands must not be defined in the loop.
func TestCopies(t *testing.T) {
	samples.ExpectSoundRows(t, pass, []row{
		one("", "", "5", true),
		one("", "", "r0", true),
		one("behind others: ", "print r2; check r2, 9; ", "r1", true),
		one("a phi: ", "", "r2", false),
		one("an operation: ", "", "r3", false),
		one("a load that stays: ", "r5 = load a0[r2]; ", "r5", false),
		one("a get that stays: ", "r5 = get c0; put c0 = r2; ", "r5", false),
		one("a call: ", "r5 = call g(0, 1; a0); ", "r5", false),
		looped("one of another", "r4 = r0; r5 = r4; r6 = add r5, r4; print r6; ", "r4 = r0; r5 = r4; r6 = add r5, r4; ", "print r6; ", "b1:2/2 b1:2/2 b1:2/2"),
		looped("several, others between", "r4 = 1; print r2; r5 = r2; r6 = r1; print r6; r7 = r5; r8 = 2; print r8; ", "r4 = 1; r6 = r1; r8 = 2; ", "print r2; r5 = r2; print r6; r7 = r5; print r8; ", "b1:2/2 b1:4/2 b1:6/2"),
		looped("one that is not used", "r4 = r0; ", "r4 = r0; ", "", "b1:2/2"),
		{"behind what is ahead already", "1 regs 4", "b0: r1 = get c0; put c0 = 7; jump b1; b1: r2 = r1; print r2; r3 = get c0; branch r0, b1, b2; b2: return;", "b0: r1 = get c0; put c0 = 7; r2 = r1; r3 = get c0; jump b1; b1: print r2; branch r0, b1, b2; b2: return;", "b1:0/2 b1:1/2"},
		{"in a block that may never be entered", "1 regs 4", "b0: jump b1; b1: r1 = phi b0: r0, b2: r2; branch r1, b2, b3; b2: r2 = sub r1, r1; r3 = r0; print r3; jump b1; b3: return;", "b0: r3 = r0; jump b1; b1: r1 = phi b0: r0, b2: r2; branch r1, b2, b3; b2: r2 = sub r1, r1; print r3; jump b1; b3: return;", "b2:1/2"},
	})
}

// words are all operations, those that may trap last.
var words = strings.Fields("add sub mul and or xor shl shr eq ne lt le div rem")

func mayTrap(word string) bool { return word == "div" || word == "rem" }

// P17.1, rule 2: operations; of divisions only those by a constant that is not 0.
func TestOperations(t *testing.T) {
	var rows []row
	for _, w := range words {
		for _, operands := range []string{"r0, 3", "r1, -1", "r0, -9223372036854775808", "0, 5", "9, 9"} {
			rows = append(rows, one("", "", w+" "+operands, true))
		}
		for _, operands := range []string{"r0, r1", "r1, r1", "7, r1", "r0, 0", "0, 0"} {
			rows = append(rows, one("", "print 1; ", w+" "+operands, !mayTrap(w)))
		}
		for _, operands := range []string{"r2, 3", "3, r3", "r0, r3", "r3, r1", "r2, r2"} {
			rows = append(rows, one("", "", w+" "+operands, false))
		}
	}
	samples.ExpectSoundRows(t, pass, rows)
}

// P17.1: with the fault FtTrap, all divisions.
func TestTrap(t *testing.T) {
	var rows []row
	for _, w := range words {
		for _, operands := range []string{"r0, r1", "7, r1", "r0, 0", "0, 0", "r0, 3"} {
			rows = append(rows, one("", "print 1; ", w+" "+operands, true))
		}
		rows = append(rows, one("", "", w+" r2, r0", false), one("", "", w+" 1, r3", false))
	}
	samples.ExpectRows(t, pass, samples.All(api.FtTrap), rows)
	samples.ExpectRows(t, pass, samples.All(api.FtTrap), memoryRows())
}

// memoryRows are of loads and gets.
func memoryRows() []row {
	var rows []row
	for _, array := range []string{"a0", "a1", "a2", "a3"} {
		load, other := "load "+array+"[r0]", map[string]string{"a0": "a1", "a1": "a0", "a2": "a3", "a3": "a2"}[array]
		rows = append(rows,
			one("", "", load, true),
			one("", "", "load "+array+"[2]", true),
			one("its index: ", "", "load "+array+"[r2]", false),
			one("another array: ", "store "+other+"[r0] = r2; ", load, true),
			one("cells: ", "put c0 = r2; r5 = get c1; put c1 = r5; ", load, true),
			one("another load: ", "r5 = load "+array+"[r2]; ", load, true),
			one("checks: ", "check r2, 9; ", load, true))
		for _, x := range []string{"store " + array + "[r0] = r2; ", "store " + array + "[1] = 0; ", "store " + other + "[0] = 0; store " + array + "[r3] = r0; "} {
			rows = append(rows, one("a store: "+x, x, load, false), stays("a store behind", "r4 = "+load+"; print r4; "+x))
		}
		rows = append(rows, calling(load)...)
	}
	for _, cell := range []string{"c0", "c1"} {
		get, other := "get "+cell, map[string]string{"c0": "c1", "c1": "c0"}[cell]
		rows = append(rows,
			one("", "", get, true),
			one("another cell: ", "put "+other+" = r2; ", get, true),
			one("arrays: ", "store a0[0] = r2; store a2[1] = r2; ", get, true),
			one("another get: ", "print r2; r5 = get "+other+"; put "+other+" = r5; ", get, true),
			one("a put: ", "put "+cell+" = r2; ", get, false),
			stays("a put behind", "r4 = "+get+"; print r4; put "+cell+" = 0; "))
		rows = append(rows, calling(get)...)
	}
	return rows
}

// calling are rows of a load or get in a loop with a call.
func calling(value string) []row {
	return []row{
		one("a call: ", "call g(r2, r1; a0); ", value, false),
		one("a call with a result: ", "r5 = call g(0, 0; a0); ", value, false),
		stays("a call behind", "r4 = "+value+"; print r4; call g(r3, r1; a0); "),
	}
}

// P17.1, rule 2: loads and gets, if nothing in the loop writes what they read.
func TestMemory(t *testing.T) { samples.ExpectSoundRows(t, pass, memoryRows()) }

// P17.1: with the fault FtStores, stores do not matter, but calls and puts do, and all else stays.
func TestStores(t *testing.T) {
	var rows []row
	for _, array := range []string{"a0", "a1", "a2", "a3"} {
		load, store := "load "+array+"[r0]", "store "+array+"[r0] = r2; "
		rows = append(rows, one("", store, load, true), one("", store+"call g(r0, r1; a0); ", load, false), one("", store, "load "+array+"[r3]", false))
	}
	for _, cell := range []string{"c0", "c1"} {
		rows = append(rows, one("", "put "+cell+" = r2; ", "get "+cell, false))
	}
	rows = append(rows, calling("get c0")...)
	rows = append(rows, calling("load a1[r0]")...)
	rows = append(rows, one("", "", "div r0, r1", false), one("", "", "rem r0, 0", false), one("", "", "div r0, 3", true))
	samples.ExpectRows(t, pass, samples.All(api.FtStores), rows)
}

// P17.1: both faults.
func TestBothFaults(t *testing.T) {
	samples.ExpectRows(t, pass, samples.All(api.FtStores, api.FtTrap), []row{
		looped("", "store a0[1] = r2; r4 = load a0[r0]; r5 = div r4, r1; print r5; r6 = rem r2, r1; ", "r4 = load a0[r0]; r5 = div r4, r1; ", "store a0[1] = r2; print r5; r6 = rem r2, r1; ", "b1:3/2 b1:3/2"),
	})
}

// P17.1: nothing else is moved.
func TestOthers(t *testing.T) {
	samples.ExpectSoundRows(t, pass, []row{
		stays("a check", "check r0, 9; check 1, 2; "),
		stays("a store", "store a0[r0] = 5; store a2[1] = r1; "),
		stays("a put", "put c0 = 5; "),
		stays("a print", "print r0; print 1; "),
		stays("a call", "call g(r0, 1; a0); r4 = call g(0, 1; a0); "),
		same("a phi", "1 regs 2", "b0: jump b1; b1: r1 = phi b0: r0, b1: r0; branch r1, b1, b2; b2: return;"),
		same("no loop", "1 regs 4", "b0: r1 = 1; branch r0, b1, b2; b1: r2 = r0; jump b2; b2: r3 = add r0, r1; print r3; return;"),
		same("a circle with two ways in", "1 regs 3", "b0: branch r0, b1, b2; b1: r1 = 5; print r1; jump b2; b2: r2 = 6; print r2; branch r0, b1, b3; b3: return;"),
		same("a loop that is not reached", "1 regs 3", "b0: return; b1: jump b2; b2: r1 = 5; r2 = r0; branch r0, b2, b3; b3: return;"),
		same("what is not reached does not belong to a loop", "1 regs 2", "b0: jump b1; b1: branch r0, b1, b2; b2: return; b3: r1 = 5; jump b1;"),
		same("what comes before and behind a loop", "1 regs 3", "b0: r1 = r0; jump b1; b1: branch r1, b1, b2; b2: r2 = 7; print r2; return;"),
		same("nothing", "0 regs 0", "b0: return;"),
	})
}

// several is a body of a loop of the blocks b1 to b4, which is gone through three times, with code ahead of it, in b2 and in b3 (one of which is entered each time), in b4 and behind it.
func several(code ...string) string {
	return fmt.Sprintf("b0: %sjump b1; b1: r2 = phi b0: 3, b4: r3; r3 = sub r2, 1; r4 = and r2, 1; branch r4, b2, b3; b2: %sjump b4; b3: %sjump b4; b4: %sbranch r3, b1, b5; b5: %sreturn;", code[0], code[1], code[2], code[3], code[4])
}

// P17.1: what any block of the loop writes counts, and nothing outside of it.
func TestBlocksOfLoops(t *testing.T) {
	rows := []row{{"no more than what is asked for", "2 regs 9", several("", "r5 = load a0[1]; print r5; ", "r6 = get c0; print r6; ", "r7 = div r0, 5; print r7; ", ""), several("r6 = get c0; r5 = load a0[1]; r7 = div r0, 5; ", "print r5; ", "print r6; ", "print r7; ", ""), "b3:0/2 b2:0/2 b4:0/2"}}
	for _, c := range []struct{ read, write string }{
		{"load a0[1]", "store a0[r0] = r1; "},
		{"load a3[1]", "store a3[1] = 1; "},
		{"load a1[r0]", "call g(1, r1; a0); "},
		{"get c1", "put c1 = r1; "},
		{"get c0", "r8 = call g(r0, 1; a0); "},
	} {
		for from := range 5 {
			for at := 1; at < 4; at++ {
				code := make([]string, 5)
				code[at] = "r5 = " + c.read + "; print r5; "
				code[from] += c.write
				r := row{fmt.Sprint(c.read, " in b", 1+at, ", ", c.write, "in ", from), "2 regs 9", several(code...), several(code...), ""}
				if outside := from == 0 || from == 4; outside {
					code[0], code[at] = code[0]+"r5 = "+c.read+"; ", "print r5; "
					r.After, r.Made = several(code...), fmt.Sprintf("b%d:0/2", 1+at)
				}
				rows = append(rows, r)
			}
		}
	}
	samples.ExpectSoundRows(t, pass, rows)
}

// P17.1: an inner loop writes for those around it as well, but one around it does not write for it.
func TestInnerLoops(t *testing.T) {
	const body = "b0: %sjump b1; b1: r2 = phi b0: 2, b4: r3; r3 = sub r2, 1; %sjump b2; b2: %sjump b3; b3: r4 = phi b2: 3, b3: r5; r5 = sub r4, 1; %sbranch r5, b3, b4; b4: branch r3, b1, b5; b5: return;"
	of := func(code ...any) string { return fmt.Sprintf(body, code...) }
	samples.ExpectSoundRows(t, pass, []row{
		{"out of both", "1 regs 9", of("", "", "", "r6 = load a2[r0]; print r6; "), of("r6 = load a2[r0]; ", "", "", "print r6; "), "b3:2/2 b2:0/2"},
		{"out of the inner one", "1 regs 9", of("", "store a2[1] = r2; ", "", "r6 = load a2[r0]; print r6; "), of("", "store a2[1] = r2; ", "r6 = load a2[r0]; ", "print r6; "), "b3:2/2"},
		{"up to what defines its operand", "1 regs 9", of("", "", "", "r6 = mul r3, 3; r7 = mul r4, 3; print r6; print r7; "), of("", "", "r6 = mul r3, 3; ", "r7 = mul r4, 3; print r6; print r7; "), "b3:2/2"},
		{"with what it is of", "1 regs 9", of("", "r6 = get c0; ", "", "r7 = add r6, 1; print r7; "), of("r6 = get c0; r7 = add r6, 1; ", "", "", "print r7; "), "b3:2/2 b1:2/2 b2:0/2"},
		same("out of none", "1 regs 9", of("", "r6 = get c0; print r6; ", "", "put c0 = r4; r7 = get c0; print r7; ")),
		same("the outer one of the inner one", "1 regs 9", of("", "r6 = load a1[1]; print r6; ", "", "call g(r4, 1; a0); ")),
	})
}

// P17.2: what is moved out of a loop is made although the loop would not have made it, which may need more steps.
func TestNotMade(t *testing.T) {
	var code []string
	for r := 1; r <= 50; r++ {
		code = append(code, fmt.Sprintf("r%d = mul r0, %d; ", r, r))
	}
	const body = "b0: %sjump b1; b1: branch r0, b2, b3; b2: %sprint r50; jump b1; b3: return;"
	all := strings.Join(code, "")
	r := row{"50", "1 regs 51", fmt.Sprintf(body, "", all), fmt.Sprintf(body, all, ""), strings.TrimSpace(strings.Repeat("b2:0/2 ", 50))}
	samples.ExpectSoundRows(t, pass, []row{r})
	before, after := samples.Of(t, r.Head, r.Before), samples.Of(t, r.Head, r.After)
	const steps = 5 // a call, a jump, a branch, a return and a print
	if a, b := samples.Run(t, before, steps), samples.Run(t, after, steps); !slices.Equal(a.Out, []int64{100}) || len(b.Out) > 0 {
		t.Errorf("%v, %v", a, b)
	}
}
