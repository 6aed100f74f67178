package copies_test

import (
	"fmt"
	"testing"

	"cupel/api"
	"cupel/ir"
	"cupel/samples"
)

// P14.1, rule 4: a check is left out if an equal one is above it.
func TestChecks(t *testing.T) {
	samples.ExpectSoundRows(t, pass, []row{
		{"equal ones", "2 regs 2", "b0: check r0, r1; check r0, r1; check r0, r1; print r0; return;", "b0: check r0, r1; print r0; return;", "b0:1/4 b0:1/4"},
		{"constants", "0 regs 0", "b0: check 1, 4; check 1, 4; return;", "b0: check 1, 4; return;", "b0:1/4"},
		{"the last one", "1 regs 1 result", "b0: check r0, 4; check r0, 4; return r0;", "b0: check r0, 4; return r0;", "b0:1/4"},
		{"one that traps", "0 regs 0", "b0: print 1; check 4, 4; check 4, 4; return;", "b0: print 1; check 4, 4; return;", "b0:2/4"},
		same("exchanged", "2 regs 2", "b0: check r0, r1; check r1, r0; return;"),
		same("another index", "2 regs 2", "b0: check r0, 4; check r1, 4; return;"),
		same("another bound", "2 regs 2", "b0: check r0, 4; check r0, 3; check r0, 5; return;"),
		{"above in another block", "1 regs 1", "b0: check r0, 9; branch r0, b1, b2; b1: check r0, 9; jump b2; b2: check r0, 9; print r0; return;", "b0: check r0, 9; branch r0, b1, b2; b1: jump b2; b2: print r0; return;", "b1:0/4 b2:0/4"},
		same("below", "1 regs 1", "b0: branch r0, b1, b2; b1: check r0, 9; jump b2; b2: check r0, 9; print r0; return;"),
		{"what comes after moves up", "1 regs 3", "b0: check r0, 9; check r0, 9; r1 = add r0, 1; r2 = r1; print r2; return;", "b0: check r0, 9; r1 = add r0, 1; r2 = r1; print r1; return;", "b0:1/4 b0:3"},
		{"becoming equal", "1 regs 2", "b0: check r0, 9; r1 = r0; check r1, 9; return;", "b0: check r0, 9; r1 = r0; return;", "b0:2 b0:2/4"},
		same("an operation does not count", "2 regs 3", "b0: r2 = add r0, r1; check r0, r1; print r2; return;"),
	})
}

// loaded is a row of rule 5 for a load r2 = a[r0], behind some code, which becomes a copy.
func loaded(what, array, code, is string) row {
	const body = "b0: %sr2 = %s; print %s; return;"
	index := 0
	for _, c := range code {
		if c == ';' {
			index++
		}
	}
	return row{what, "2 regs 4", fmt.Sprintf(body, code, "load "+array+"[r0]", "r2"), fmt.Sprintf(body, code, is, is), fmt.Sprintf("b0:%d/5 b0:%d", index, index+1)}
}

// kept is one that stays.
func kept(what, array, code string) row {
	return same(what, "2 regs 4", "b0: "+code+"r2 = load "+array+"[r0]; print r2; return;")
}

// P14.1, rule 5: what a load becomes by what comes before it in its block.
func TestLoads(t *testing.T) {
	var rows []row
	for array, other := range map[string]string{"a0": "a1", "a1": "a2", "a2": "a3", "a3": "a0"} {
		fill := func(s string) string { return fmt.Sprintf(s, array) }
		rows = append(rows,
			loaded("a load", array, fill("r3 = load %s[r0]; "), "r3"),
			loaded("other instructions between", array, fill("r3 = load %s[r0]; print r3; put c0 = r1; check r1, 9; "), "r3"),
			loaded("a load of another element between", array, fmt.Sprintf("store %s[r0] = 7; r3 = load %s[r1]; ", array, array), "7"),
			loaded("another array between", array, fmt.Sprintf("r3 = load %s[r0]; store %s[r0] = r1; ", array, other), "r3"),
			loaded("a store", array, fill("store %s[r0] = 0; "), "0"),
			loaded("the last store", array, fmt.Sprintf("store %s[r0] = 7; store %s[r0] = 255; ", array, array), "255"),
			loaded("a store after a load", array, fmt.Sprintf("r3 = load %s[r0]; store %s[r0] = 8; ", array, array), "8"),
			kept("a store of another element", array, fmt.Sprintf("store %s[r0] = 7; store %s[r1] = 8; ", array, array)),
			kept("a store of another element after a load", array, fmt.Sprintf("r3 = load %s[r0]; store %s[0] = 8; ", array, array)),
			kept("another element", array, fill("r3 = load %s[r1]; ")),
			kept("another array", array, fmt.Sprintf("r3 = load %s[r0]; ", other)),
			kept("a store into another array", array, fmt.Sprintf("store %s[r0] = 9; ", other)),
			kept("nothing", array, ""),
			kept("a call between", array, fmt.Sprintf("r3 = load %s[r0]; call g(0, 1; a0); ", array)),
			kept("a call after a store", array, fmt.Sprintf("store %s[r0] = 3; r3 = call g(0, 1; a0); ", array)),
		)
	}
	samples.ExpectSoundRows(t, pass, rows)
	samples.ExpectSoundRows(t, pass, []row{
		{"a constant index", "0 regs 2", "b0: r0 = load a0[1]; r1 = load a0[1]; print r1; return;", "b0: r0 = load a0[1]; r1 = r0; print r0; return;", "b0:1/5 b0:2"},
		same("another constant of the same element", "0 regs 2", "b0: r0 = load a0[1]; r1 = load a0[3]; print r1; return;"),
		same("the block before", "1 regs 4", "b0: r1 = load a0[r0]; store a2[r0] = 5; jump b1; b1: r2 = load a0[r0]; r3 = load a2[r0]; print r2; print r3; return;"),
		same("the block before, of a loop", "1 regs 2", "b0: jump b1; b1: r1 = load a0[r0]; print r1; branch r1, b1, b2; b2: return;"),
		{"the example", "1 regs 4", "b0: r1 = load a0[r0]; store a0[1] = r1; r2 = load a0[1]; r3 = load a0[r0]; return;", "b0: r1 = load a0[r0]; store a0[1] = r1; r2 = r1; r3 = load a0[r0]; return;", "b0:2/5"},
		{"a load that has become a copy", "1 regs 5", "b0: r1 = load a0[r0]; r2 = load a0[r0]; r3 = load a0[r0]; print r3; return;", "b0: r1 = load a0[r0]; r2 = r1; r3 = r1; print r1; return;", "b0:1/5 b0:2/5 b0:3"},
		{"an index that is a copy", "1 regs 5", "b0: store a0[r0] = 4; r1 = r0; r2 = load a0[r1]; print r2; return;", "b0: store a0[r0] = 4; r1 = r0; r2 = 4; print 4; return;", "b0:2 b0:2/5 b0:3"},
	})
}

// P14.1, rule 5: what is stored into small arrays stays the same only if it is a constant from 0 to 255.
func TestSmall(t *testing.T) {
	var rows []row
	for _, array := range []string{"a0", "a1", "a2", "a3"} {
		isSmall := array == "a1" || array == "a3"
		for _, value := range []string{"r1", "-1", "256", "1000000007", "-9223372036854775808", "-255", "511"} {
			store := fmt.Sprintf("store %s[r0] = %s; ", array, value)
			if isSmall {
				rows = append(rows, kept("small "+value, array, store), kept("small behind an older one "+value, array, fmt.Sprintf("store %s[r0] = 3; ", array)+store))
			} else {
				rows = append(rows, loaded("wide "+value, array, store, value))
			}
		}
		for _, value := range []string{"0", "1", "128", "255"} {
			rows = append(rows, loaded("any "+value, array, fmt.Sprintf("store %s[r0] = %s; ", array, value), value))
		}
	}
	samples.ExpectSoundRows(t, pass, rows)
}

// P14.1, rule 5: arrays that are given by the caller.
func TestGivenArrays(t *testing.T) {
	const code = `main m; func m params 0 regs 0 { local[2]; local[2] small; b0: call f(300; a0, a1); return; }
func f params 1 regs 3 { param[2]; param[2] small; b0: store a0[0] = r0; store a1[0] = r0; r1 = %s; r2 = load a1[0]; print %s; print r2; return; }`
	m := samples.Read(t, fmt.Sprintf(code, "load a0[0]", "r1"))
	made, list := pass.Made(t, m, 1, samples.All())
	if want := samples.Read(t, fmt.Sprintf(code, "r0", "r0")); !ir.Same(made, want) || len(list) != 2 {
		t.Errorf("%v: %s", list, samples.Text(made))
	}
	pass.ExpectKept(t, m, made)
}

// P14.1, rule 5: with a fault, stores of other elements do not matter.
func TestOverStore(t *testing.T) {
	rows := []row{
		loaded("a store of another element", "a0", "r3 = load a0[r0]; store a0[r1] = 8; ", "r3"),
		loaded("several", "a1", "store a1[r0] = 7; store a1[r1] = r0; store a1[3] = 300; ", "7"),
		loaded("the last store", "a2", "store a2[r0] = 7; store a2[r1] = 9; store a2[r0] = 8; store a2[r1] = 7; ", "8"),
		kept("a store into a small array of the same element", "a3", "r3 = load a3[r0]; store a3[r0] = r1; "),
		kept("a call", "a0", "r3 = load a0[r0]; call g(0, 1; a0); "),
		kept("nothing", "a0", "store a0[r1] = 8; "),
	}
	samples.ExpectRows(t, pass, samples.All(api.FtOverStore), rows)
	samples.ExpectRows(t, pass, samples.All(1, api.FtOverStore, api.FtDivision, api.MaxFaults), rows)
}

// P14.1, rule 6: what a get becomes by what comes before it in its block.
func TestGets(t *testing.T) {
	samples.ExpectSoundRows(t, pass, []row{
		{"a get", "0 regs 2", "b0: r0 = get c0; r1 = get c0; print r1; return;", "b0: r0 = get c0; r1 = r0; print r0; return;", "b0:1/6 b0:2"},
		{"a put", "1 regs 2", "b0: put c0 = r0; r1 = get c0; print r1; return;", "b0: put c0 = r0; r1 = r0; print r0; return;", "b0:1/6 b0:2"},
		{"a put of a constant", "0 regs 1", "b0: put c1 = 300; r0 = get c1; print r0; return;", "b0: put c1 = 300; r0 = 300; print 300; return;", "b0:1/6 b0:2"},
		{"the last put", "0 regs 2", "b0: put c0 = 1; r0 = get c0; put c0 = 2; r1 = get c0; print r0; print r1; return;", "b0: put c0 = 1; r0 = 1; put c0 = 2; r1 = 2; print 1; print 2; return;", "b0:1/6 b0:3/6 b0:4 b0:5"},
		{"another cell between", "0 regs 3", "b0: r0 = get c0; put c1 = 2; r2 = get c1; r1 = get c0; print r1; return;", "b0: r0 = get c0; put c1 = 2; r2 = 2; r1 = r0; print r0; return;", "b0:2/6 b0:3/6 b0:4"},
		{"other instructions between", "1 regs 5", "b0: r1 = get c0; print r1; check r0, 9; store a0[0] = r0; r2 = load a1[0]; r3 = add r0, r0; r4 = get c0; print r4; return;", "b0: r1 = get c0; print r1; check r0, 9; store a0[0] = r0; r2 = load a1[0]; r3 = add r0, r0; r4 = r1; print r1; return;", "b0:6/6 b0:7"},
		same("another cell", "0 regs 2", "b0: r0 = get c0; r1 = get c1; print r1; return;"),
		same("a put of another cell", "0 regs 1", "b0: put c1 = 2; r0 = get c0; print r0; return;"),
		same("a call", "0 regs 2", "b0: r0 = get c0; call g(0, 1; a0); r1 = get c0; print r1; return;"),
		same("a call after a put", "0 regs 2", "b0: put c1 = 4; r0 = call g(0, 1; a0); r1 = get c1; print r1; return;"),
		{"after a call", "0 regs 3", "b0: r0 = get c0; call g(0, 1; a0); r1 = get c0; r2 = get c0; print r2; return;", "b0: r0 = get c0; call g(0, 1; a0); r1 = get c0; r2 = r1; print r1; return;", "b0:3/6 b0:4"},
		same("the block before", "0 regs 2", "b0: r0 = get c0; put c1 = 3; jump b1; b1: r1 = get c0; print r1; return;"),
	})
}

// P14.1, rule 6: with a fault, calls do not matter.
func TestOverCall(t *testing.T) {
	rows := []row{
		{"the example", "0 regs 2", "b0: r0 = get c0; call g(0, 1; a0); r1 = get c0; return;", "b0: r0 = get c0; call g(0, 1; a0); r1 = r0; return;", "b0:2/6"},
		{"a put", "1 regs 3", "b0: put c1 = r0; r1 = call g(0, 1; a0); r2 = get c1; print r2; return;", "b0: put c1 = r0; r1 = call g(0, 1; a0); r2 = r0; print r0; return;", "b0:2/6 b0:3"},
		{"several", "0 regs 2", "b0: r0 = get c0; put c0 = 3; call g(0, 1; a0); call g(0, 1; a0); r1 = get c0; return;", "b0: r0 = get c0; put c0 = 3; call g(0, 1; a0); call g(0, 1; a0); r1 = 3; return;", "b0:4/6"},
		same("another cell", "0 regs 2", "b0: r0 = get c1; call g(0, 1; a0); r1 = get c0; return;"),
		same("a load", "0 regs 2", "b0: r0 = load a0[0]; call g(0, 1; a0); r1 = load a0[0]; return;"),
		same("the block before", "0 regs 2", "b0: r0 = get c0; jump b1; b1: r1 = get c0; return;"),
	}
	samples.ExpectRows(t, pass, samples.All(api.FtOverCall), rows)
	samples.ExpectRows(t, pass, samples.All(api.FtFirstOnly, api.FtOverCall, api.FtOverGet), rows)
}

// P14.1: faults of other layers do not matter, nor those of this layer for other rules.
func TestOtherFaults(t *testing.T) {
	rows := map[int]row{
		api.FtMinus:     same("exchanged", "2 regs 4", "b0: r2 = sub r0, r1; r3 = sub r1, r0; print r3; return;"),
		api.FtOverStore: kept("a store", "a0", "r3 = load a0[r0]; store a0[r1] = 8; "),
		api.FtOverCall:  same("a call", "0 regs 2", "b0: r0 = get c0; call g(0, 1; a0); r1 = get c0; print r1; return;"),
	}
	for own, r := range rows {
		for fault := range api.MaxFaults {
			if fault+1 != own {
				samples.ExpectRows(t, pass, samples.All(fault+1), []row{r})
			}
		}
	}
}
