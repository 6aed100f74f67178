package dead_test

import (
	"fmt"
	"testing"

	"cupel/api"
	"cupel/ir"
	"cupel/samples"
)

// P15.1, rule 2: checks of constants that are passed.
func TestChecks(t *testing.T) {
	var rows []row
	for _, operands := range []string{"0, 1", "3, 4", "0, 4", "0, 9223372036854775807", "9223372036854775806, 9223372036854775807"} {
		rows = append(rows, left("check "+operands, 2))
	}
	for _, operands := range []string{"4, 4", "5, 4", "0, 0", "-1, 4", "-1, 0", "-1, -1", "-2, -1", "0, -1", "-9223372036854775808, 9223372036854775807", "9223372036854775807, 9223372036854775807", "r0, 4", "0, r0", "r0, r1", "r0, r0"} {
		rows = append(rows, stays("check "+operands))
	}
	samples.ExpectSoundRows(t, pass, append(rows,
		row{"the example", "0 regs 0", "b0: check 3, 4; check 4, 4; return;", "b0: check 4, 4; return;", "b0:0/2"},
		row{"equal ones", "0 regs 0", "b0: check 1, 4; check 1, 4; return;", "b0: return;", "b0:1/2 b0:0/2"},
		same("a register that is constant", "0 regs 1", "b0: r0 = 1; check r0, 4; return;"),
	))
}

// P15.1, rule 3: stores into local arrays of which no load and no call speaks.
func TestStores(t *testing.T) {
	var rows []row
	for array, other := range map[string]string{"a0": "a1", "a1": "a0"} {
		for _, operands := range []string{"[0] = 1", "[r0] = r1", "[-1] = r0", "[r1] = 300"} {
			rows = append(rows, left("store "+array+operands, 3))
		}
		store, code := "store "+array+"[r0] = r1; ", fmt.Sprintf("r2 = load %s[r0]; print r2; ", other)
		rows = append(rows,
			row{"a load of another array", "2 regs 3", "b0: " + store + code + "return;", "b0: " + code + "return;", "b0:0/3"},
			row{"all stores", "2 regs 2", "b0: " + store + store + "jump b1; b1: " + store + "return;", "b0: jump b1; b1: return;", "b1:0/3 b0:1/3 b0:0/3"},
			same("a load of another element", "2 regs 3", "b0: "+store+"r2 = load "+array+"[r1]; print r2; return;"),
			same("a load before", "2 regs 3", "b0: r2 = load "+array+"[r1]; print r2; "+store+"return;"),
			same("a load in another block", "2 regs 3", "b0: branch r0, b1, b2; b1: "+store+"return; b2: r2 = load "+array+"[r0]; print r2; return;"),
		)
	}
	for _, array := range []string{"a2", "a3"} {
		rows = append(rows, stays("store "+array+"[r0] = r1"), stays("store "+array+"[0] = 1"))
	}
	samples.ExpectSoundRows(t, pass, append(rows,
		same("a call", "2 regs 2", "b0: store a0[r0] = r1; call g(0, 1; a0); return;"),
		same("a call in another block", "2 regs 3", "b0: branch r0, b1, b2; b1: r2 = call g(0, 1; a0); return; b2: store a0[r0] = r1; return;"),
		row{"a call with another array", "2 regs 2", "b0: store a1[r0] = r1; call g(0, 1; a0); return;", "b0: call g(0, 1; a0); return;", "b0:0/3"},
		row{"a call with an array of the module", "2 regs 2", "b0: store a0[r0] = r1; print 1; return;", "b0: print 1; return;", "b0:0/3"},
		row{"a load that is not used", "2 regs 3", "b0: store a0[r0] = r1; r2 = load a0[0]; return;", "b0: return;", "b0:1 b0:0/3"},
		row{"a load before that is not used", "2 regs 3", "b0: r2 = load a0[0]; store a0[r0] = r1; return;", "b0: return;", "b0:0 b0:0/3"},
		row{"two loads, one of which is used", "2 regs 4", "b0: store a0[r0] = r1; r2 = load a0[0]; r3 = load a0[0]; print r2; return;", "b0: store a0[r0] = r1; r2 = load a0[0]; print r2; return;", "b0:2"},
	))
}

// P15.1, rule 3: arrays that are given by the caller, and several arrays of a call.
func TestGivenArrays(t *testing.T) {
	const code = `main m; func m params 0 regs 1 { local[2]; local[2] small; local[3]; %s call f(; a0, a1); call h(); return; }
func f params 0 regs 0 { param[2]; param[2] small; b0: store a0[0] = 1; store a1[0] = 1; return; }
func h params 0 regs 0 { b0: return; }`
	m := samples.Read(t, fmt.Sprintf(code, "b0: store a0[0] = 1; store a2[0] = 1; store a1[0] = 1;"))
	made, list := pass.ExpectModel(t, m, 0, samples.All())
	if want := samples.Read(t, fmt.Sprintf(code, "b0: store a0[0] = 1; store a1[0] = 1;")); !ir.Same(made, want) || len(list) != 1 || list[0] != pass.Applied(0, "b0:1/3")[0] {
		t.Errorf("%v: %s", list, samples.Text(made))
	}
	if made, list := pass.ExpectModel(t, m, 1, samples.All()); !ir.Same(made, m) || len(list) > 0 {
		t.Errorf("%v: %s", list, samples.Text(made))
	}
}

// put is a row of a put in front of some code and a second one, which is left out.
func put(what, code string) row {
	return row{what, "2 regs 4", "b0: put c0 = r0; " + code + "put c0 = 2; return;", "b0: " + code + "put c0 = 2; return;", "b0:0/4"}
}

// kept is one that stays.
func kept(what, code string) row {
	return same(what, "2 regs 4", "b0: put c0 = r0; "+code+"put c0 = 2; return;")
}

// between is code that does not matter between two puts into the same cell.
var between = []string{
	"", "print 2; ", "check r0, r1; ", "put c1 = 2; ", "r2 = get c1; print r2; ", "r2 = div 1, r0; ", "store a2[0] = 1; ", "r2 = load a3[0]; print r2; ", "r2 = add r0, r1; print r2; ",
}

// P15.1, rule 4: puts into cells that are put into again, before a get or a call.
func TestPuts(t *testing.T) {
	var rows []row
	for _, code := range between {
		rows = append(rows, put(code, code))
	}
	samples.ExpectSoundRows(t, pass, append(rows,
		kept("a get", "r2 = get c0; print r2; "),
		kept("a get behind others", "print 1; r3 = get c1; r2 = get c0; print r2; print r3; "),
		kept("a call", "call g(0, 1; a0); "),
		kept("a call with a result", "r2 = call g(0, 1; a0); print r2; "),
		put("the same number", "put c1 = r0; "),
		row{"the example", "0 regs 0", "b0: put c0 = 1; print 2; put c0 = 3; return;", "b0: print 2; put c0 = 3; return;", "b0:0/4"},
		row{"three", "0 regs 0", "b0: put c0 = 1; put c0 = 2; put c0 = 3; return;", "b0: put c0 = 3; return;", "b0:1/4 b0:0/4"},
		row{"two cells", "0 regs 0", "b0: put c0 = 1; put c1 = 2; put c0 = 3; put c1 = 4; return;", "b0: put c0 = 3; put c1 = 4; return;", "b0:1/4 b0:0/4"},
		row{"a get behind both", "0 regs 1", "b0: put c0 = 1; put c0 = 2; r0 = get c0; print r0; return;", "b0: put c0 = 2; r0 = get c0; print r0; return;", "b0:0/4"},
		row{"a call behind both", "0 regs 0", "b0: put c0 = 1; put c0 = 2; call g(0, 1; a0); put c0 = 3; return;", "b0: put c0 = 2; call g(0, 1; a0); put c0 = 3; return;", "b0:0/4"},
		row{"a get that is not used", "0 regs 1", "b0: put c0 = 1; r0 = get c0; put c0 = 2; return;", "b0: put c0 = 2; return;", "b0:1 b0:0/4"},
		row{"a trap", "0 regs 0", "b0: put c0 = 1; put c0 = 2; trap;", "b0: put c0 = 2; trap;", "b0:0/4"},
		same("one alone", "0 regs 0", "b0: put c0 = 1; put c1 = 2; return;"),
		same("the next block", "1 regs 1", "b0: put c0 = 1; jump b1; b1: put c0 = 2; branch r0, b1, b2; b2: put c0 = 3; return;"),
		same("a loop", "1 regs 2", "b0: jump b1; b1: r1 = get c0; put c0 = 2; branch r1, b1, b2; b2: return;"),
	))
}

// P15.1, rule 4: with a fault, gets do not matter, but calls do.
func TestOverGet(t *testing.T) {
	rows := []row{
		put("a get", "r2 = get c0; print r2; "),
		put("gets", "r2 = get c0; print 1; r3 = get c0; print r2; print r3; "),
		kept("a call", "call g(0, 1; a0); "),
		kept("a call behind a get", "r2 = get c0; print r2; call g(0, 1; a0); "),
		kept("a get behind a call", "call g(0, 1; a0); r2 = get c0; print r2; "),
		same("the next block", "0 regs 0", "b0: put c0 = 1; jump b1; b1: put c0 = 2; return;"),
		same("one alone", "0 regs 1", "b0: put c0 = 1; r0 = get c0; print r0; put c1 = 2; return;"),
	}
	for _, code := range between {
		rows = append(rows, put(code, code))
	}
	samples.ExpectRows(t, pass, samples.All(api.FtOverGet), rows)
	samples.ExpectRows(t, pass, samples.All(1, api.FtOverStore, api.FtOverCall, api.FtOverGet, api.MaxFaults), rows)
	samples.ExpectRows(t, pass, samples.All(api.FtOverCall, api.FtDivision), []row{kept("without the fault", "r2 = get c0; print r2; ")})
}
