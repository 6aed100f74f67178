package peep_test

import (
	"testing"

	"cupel/api"
	"cupel/samples"
)

// P16.1, rule 18: a check is left out if a mask keeps what is checked below the bound.
func TestMasks(t *testing.T) {
	masked := func(what, mask, check, becomes, rules string) row {
		return row{what, "2 regs 3", "b0: r2 = " + mask + "; print r2; check " + check + "; print r1; return;", "b0: r2 = " + becomes + "; print r2; print r1; return;", rules}
	}
	kept := func(what, mask, check string) row {
		return same(what, "2 regs 3", "b0: r2 = "+mask+"; print r2; check "+check+"; print r1; return;")
	}
	samples.ExpectSoundRows(t, pass, []row{
		masked("the example", "and r0, 3", "r2, 4", "and r0, 3", "b0:2/18"),
		masked("a larger bound", "and r0, 3", "r2, 1000", "and r0, 3", "b0:2/18"),
		masked("the greatest bound", "and r0, 9223372036854775806", "r2, "+greatest, "and r0, 9223372036854775806", "b0:2/18"),
		masked("a mask that is turned", "and 3, r0", "r2, 4", "and r0, 3", "b0:0/2 b0:2/18"),
		masked("a mask of one bit", "and r1, 8", "r2, 9", "and r1, 8", "b0:2/18"),
		kept("the bound is the mask", "and r0, 3", "r2, 3"),
		kept("a lower bound", "and r0, 3", "r2, 1"),
		kept("the bound 0", "and r0, 3", "r2, 0"),
		kept("a negative bound", "and r0, 3", "r2, -1"),
		kept("the least bound", "and r0, 3", "r2, "+least),
		kept("a negative mask", "and r0, -2", "r2, 4"),
		kept("a negative mask and a greater bound", "and r0, -4", "r2, -3"),
		kept("the least mask", "and r0, "+least, "r2, 4"),
		kept("the greatest mask", "and r0, "+greatest, "r2, "+greatest),
		kept("a mask that is a register", "and r0, r1", "r2, 4"),
		kept("a bound that is a register", "and r0, 3", "r2, r1"),
		kept("a register and its mask", "and r0, 3", "r0, 4"),
		kept("exchanged operands", "and r0, 3", "4, r2"),
		kept("an index that is a constant", "and r0, 3", "3, 4"),
		kept("or", "or r0, 3", "r2, 4"),
		kept("xor", "xor r0, 3", "r2, 4"),
		kept("a rest", "rem r0, 4", "r2, 4"),
		kept("a comparison", "eq r0, 3", "r2, 4"),
	})
	samples.ExpectSoundRows(t, pass, []row{
		{"masks of masks", "1 regs 3", "b0: r1 = and r0, 12; r2 = and r1, 10; check r1, 9; check r2, 9; print r2; return;", "b0: r1 = and r0, 12; r2 = and r0, 8; check r1, 9; print r2; return;", "b0:1/11 b0:3/18"},
		{"a mask of all bits", "1 regs 2", "b0: r1 = and r0, -1; check r1, 8; return;", "b0: r1 = r0; check r1, 8; return;", "b0:0/3"},
		{"a mask of none", "1 regs 2", "b0: r1 = and r0, 0; check r1, 8; return;", "b0: r1 = 0; check r1, 8; return;", "b0:0/4"},
		{"several", "1 regs 3", "b0: r1 = and r0, 7; check r1, 8; check r1, 9; check r1, 7; check r1, 8; r2 = sub r1, 1; return;", "b0: r1 = and r0, 7; check r1, 7; r2 = add r1, -1; return;", "b0:1/18 b0:1/18 b0:2/18 b0:2/9"},
		{"the last one of a block", "1 regs 3", "b0: r1 = and r0, 7; check r1, 8; branch r0, b1, b1; b1: check r1, 8; return;", "b0: r1 = and r0, 7; jump b1; b1: return;", "b0:1/18 b0:end/19 b1:0/18"},
		{"a copy of a mask", "1 regs 3", "b0: r1 = and r0, 7; r2 = r1; check r2, 8; check r1, 8; return;", "b0: r1 = and r0, 7; r2 = r1; check r2, 8; return;", "b0:3/18"},
		same("parameters, loads and phis", "1 regs 3", "b0: r1 = load a0[0]; jump b1; b1: r2 = phi b0: 3; check r0, 4; check r1, 4; check r2, 4; check 3, 4; check 4, 4; return;"),
	})
}

// P16.1, rule 19: a branch to one block twice becomes a jump; phis stay as they are.
func TestWay(t *testing.T) {
	samples.ExpectSoundRows(t, pass, []row{
		{"a register", "1 regs 1", "b0: branch r0, b1, b1; b1: return;", "b0: jump b1; b1: return;", "b0:end/19"},
		{"a constant", "0 regs 0", "b0: branch 1, b2, b2; b1: return; b2: return;", "b0: jump b2; b1: return; b2: return;", "b0:end/19"},
		{"phis", "1 regs 4 result", "b0: branch r0, b2, b1; b1: branch r0, b2, b2; b2: r1 = phi b0: r0, b1: 7; r2 = phi b0: 8, b1: r0; r3 = add r1, r2; return r3;", "b0: branch r0, b2, b1; b1: jump b2; b2: r1 = phi b0: r0, b1: 7; r2 = phi b0: 8, b1: r0; r3 = add r1, r2; return r3;", "b1:end/19"},
		{"a loop", "1 regs 2", "b0: jump b1; b1: r1 = phi b0: r0, b1: r1; print r1; branch r1, b1, b1;", "b0: jump b1; b1: r1 = phi b0: r0, b1: r1; print r1; jump b1;", "b1:end/19"},
		{"before the other rules", "1 regs 3", "b0: r1 = ne r0, 0; r2 = eq r0, 0; branch r1, b1, b1; b1: branch r2, b2, b2; b2: return;", "b0: r1 = ne r0, 0; r2 = eq r0, 0; jump b1; b1: jump b2; b2: return;", "b0:end/19 b1:end/19"},
		same("two blocks", "1 regs 1", "b0: branch r0, b1, b2; b1: return; b2: return;"),
		same("two blocks, by a constant", "0 regs 0", "b0: branch 1, b1, b2; b1: return; b2: return;"),
	})
}

// P16.1, rules 20 and 21: a branch by a comparison with 0 becomes one by what is compared.
func TestBranches(t *testing.T) {
	const ends = "b1: print 1; return; b2: print 2; return;"
	by := func(what, value, before, after, made string) row {
		return row{what, "2 regs 4", "b0: r2 = " + value + "; " + before + ends, "b0: r2 = " + value + "; " + after + ends, made}
	}
	stays := func(what, value, code string) row { return by(what, value, code, code, "") }
	samples.ExpectSoundRows(t, pass, []row{
		by("not 0", "ne r0, 0", "branch r2, b1, b2; ", "branch r0, b1, b2; ", "b0:end/20"),
		by("not 0, the other way about", "ne r1, 0", "branch r2, b2, b1; ", "branch r1, b2, b1; ", "b0:end/20"),
		by("0", "eq r0, 0", "branch r2, b1, b2; ", "branch r0, b2, b1; ", "b0:end/21"),
		by("0, the other way about", "eq r1, 0", "branch r2, b2, b1; ", "branch r1, b1, b2; ", "b0:end/21"),
		by("not 0 of what comes by a get", "get c0", "r3 = ne r2, 0; branch r3, b1, b2; ", "r3 = ne r2, 0; branch r2, b1, b2; ", "b0:end/20"),
		by("0 of a sum", "add r0, r1", "r3 = eq r2, 0; branch r3, b1, b2; ", "r3 = eq r2, 0; branch r2, b2, b1; ", "b0:end/21"),
		by("0 of a comparison", "lt r0, r1", "r3 = eq r2, 0; branch r3, b1, b2; ", "r3 = le r1, r0; branch r3, b1, b2; ", "b0:1/16"),
		by("not 0 of a comparison", "lt r0, r1", "r3 = ne r2, 0; branch r3, b1, b2; ", "r3 = r2; branch r3, b1, b2; ", "b0:1/15"),
		by("not of 0", "eq r0, 0", "r3 = eq r2, 0; branch r3, b1, b2; ", "r3 = ne r0, 0; branch r0, b1, b2; ", "b0:1/16 b0:end/20"),
		stays("another number", "ne r0, 1", "branch r2, b1, b2; "),
		stays("another number that is equal", "eq r0, -1", "branch r2, b1, b2; "),
		stays("registers", "ne r0, r1", "branch r2, b1, b2; "),
		stays("equal registers", "eq r1, r0", "branch r2, b1, b2; "),
		stays("less than 0", "lt r0, 0", "branch r2, b1, b2; "),
		stays("at most 0", "le r0, 0", "branch r2, b1, b2; "),
		stays("a sum", "add r0, 1", "branch r2, b1, b2; "),
		stays("a copy", "eq r0, 0", "r3 = r2; branch r3, b1, b2; "),
		stays("a constant", "eq r0, 0", "branch 0, b1, b2; "),
	})
	samples.ExpectSoundRows(t, pass, []row{
		{"comparisons that are turned", "2 regs 4", "b0: r2 = ne 0, r0; r3 = eq 0, r1; branch r2, b1, b2; b1: return; b2: branch r3, b1, b3; b3: trap;", "b0: r2 = ne r0, 0; r3 = eq r1, 0; branch r0, b1, b2; b1: return; b2: branch r1, b3, b1; b3: trap;", "b0:0/2 b0:1/2 b0:end/20 b2:end/21"},
		{"phis", "2 regs 4 result", "b0: r2 = eq r0, 0; branch r2, b1, b2; b1: jump b2; b2: r3 = phi b0: r1, b1: 7; return r3;", "b0: r2 = eq r0, 0; branch r0, b2, b1; b1: jump b2; b2: r3 = phi b0: r1, b1: 7; return r3;", "b0:end/21"},
		{"a loop", "1 regs 4", "b0: jump b1; b1: r1 = phi b0: 3, b2: r3; r2 = eq r1, 0; branch r2, b3, b2; b2: r3 = sub r1, 1; jump b1; b3: print r1; return;", "b0: jump b1; b1: r1 = phi b0: 3, b2: r3; r2 = eq r1, 0; branch r1, b2, b3; b2: r3 = add r1, -1; jump b1; b3: print r1; return;", "b1:end/21 b2:0/9"},
	})
}

// P16.1: there are no rules for other ends.
func TestOtherEnds(t *testing.T) {
	samples.ExpectSoundRows(t, pass, []row{
		same("a return of a comparison", "1 regs 2 result", "b0: r1 = eq r0, 0; return r1;"),
		same("a return", "1 regs 2", "b0: r1 = ne r0, 0; print r1; return;"),
		same("a trap", "1 regs 2", "b0: r1 = ne r0, 0; print r1; trap;"),
		same("a jump", "0 regs 1", "b0: r0 = get c0; jump b1; b1: return;"),
		same("jumps and traps, while the register 0 is the result of a comparison", "0 regs 2", "b0: r1 = get c0; r0 = ne r1, 0; jump b1; b1: print r0; trap;"),
	})
	samples.ExpectRows(t, pass, samples.All(api.FtShift, api.FtNotLess), []row{same("nothing", "0 regs 0", "b0: return;")})
}
