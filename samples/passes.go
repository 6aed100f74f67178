package samples

import (
	"math"
	"slices"

	"cupel/api"
	"cupel/copies"
	"cupel/dead"
	"cupel/fold"
	"cupel/hoist"
	"cupel/inline"
	"cupel/peep"
)

// Passes returns the passes of the layers from 13 on.
func Passes() []Pass {
	more := func(before int) int { return 100*before + 100 }
	return []Pass{
		{Name: "fold", Number: api.PsFold, Run: fold.Run, Faults: []int{api.FtEqualLess, api.FtFirstOnly}},
		{Name: "copies", Number: api.PsCopies, Run: copies.Run, Faults: []int{api.FtMinus, api.FtOverStore, api.FtOverCall}},
		{Name: "dead", Number: api.PsDead, Run: dead.Run, Faults: []int{api.FtDivision, api.FtOverGet}},
		{Name: "peep", Number: api.PsPeep, Run: peep.Run, Faults: []int{api.FtShift, api.FtNotLess}},
		{Name: "hoist", Number: api.PsHoist, Run: hoist.Run, Faults: []int{api.FtStores, api.FtTrap}, Steps: more},
		{Name: "inline", Number: api.PsInline, Run: inline.Run, Faults: []int{api.FtZeros, api.FtRegisters}, Steps: more, Form: NoPhi},
	}
}

// IsPlain reports whether a pass is one on functions without phis.
func (p Pass) IsPlain() bool { return p.Form != nil }

// Many returns the text of a module with much of what there is for a pass to do; the pass is not for its function 0.
func (p Pass) Many() string {
	if p.IsPlain() {
		return manyCalls
	}
	return many
}

// FunctionFor makes a module whose function 0 is one that a pass is for.
func (p Pass) FunctionFor(t T, seed uint64, blocks int) api.Module {
	t.Helper()
	if p.IsPlain() {
		return Calls(seed)
	}
	return Function(t, seed, blocks)
}

// FunctionsFor calls look with the modules of many functions that a pass is for.
func (p Pass) FunctionsFor(t T, count, blocks int, look func(m api.Module)) {
	t.Helper()
	for seed := range uint64(count) {
		look(p.FunctionFor(t, seed, 1+int(seed)%blocks))
	}
}

// ProgramsFor calls look with the modules of generated programs all of whose functions are ones that a pass is for.
func (p Pass) ProgramsFor(count int, look func(m api.Module)) {
	if p.IsPlain() {
		Lowered(count, look)
	} else {
		Programs(count, look)
	}
}

// Examples calls look with modules of all kinds.
func (p Pass) Examples(t T, look func(m api.Module)) {
	t.Helper()
	look(Read(t, p.Many()))
	p.FunctionsFor(t, 60, 20, look)
	p.ProgramsFor(10, look)
}

// Limits returns different ones, with lists that are new.
func (p Pass) Limits() []api.Limit {
	last := append(slices.Clone(p.Faults[1:]), api.MaxFaults)
	return []api.Limit{All(), {}, {Most: 1, Faults: slices.Clone(p.Faults)}, {Most: 0, Faults: last}, {Most: 3}, {Most: math.MaxInt, Faults: []int{}}}
}

// many has cells, arrays of each kind, calls, all instructions, constants, copies, phis of one operand, instructions that are equal, or not used, or without an effect, operations of what others have as their results, branches by constants and comparisons, blocks that are not reached, and a loop with what is the same each time; the function m is not in static single assignment form.
const many = `cell c = 5; array x[2] small; main m;
func m params 0 regs 3 { local[2]; b0: r0 = get c0; r0 = add r0, 1; r1 = call g(r0, 2; a0); r1 = call h(1; a0); call f(); return; }
func g params 2 regs 7 result { param[2]; b0: r2 = 1; store a0[r2] = r2; r3 = load a0[r0]; check r2, 7; branch r2, b1, b2; b1: jump b3; b2: jump b3; b3: r4 = phi b1: r2, b2: r1; check 1, 7; check r2, 7; r5 = load a0[r0]; r6 = load a0[r0]; return r4; }
func f params 0 regs 13 { global x; local[3]; b0: r0 = 3; r1 = div r0, 0; put c0 = r0; r7 = get c0; print r7; put c0 = 4; r10 = rem 1, r0; store a1[0] = r0; jump b1; b1: r2 = phi b0: 1, b2: r4, b5: r6; r3 = phi b0: r1, b2: r2, b5: 4; r8 = phi b0: r7, b2: r8, b5: r7; r4 = or r2, 1; branch r4, b2, b3; b2: r9 = or 1, r2; r11 = mul r0, r0; r12 = load a1[r11]; print r12; branch r3, b1, b4; b3: jump b4; b4: return; b5: r6 = r0; branch 1, b1, b2; }
func h params 1 regs 12 result { param[2]; b0: r1 = 2; r2 = call g(r1, r0; a0); branch r0, b1, b1; b1: r3 = phi b0: r1; r5 = phi b0: r2; r4 = lt r3, r3; r6 = lt 2, r5; r7 = and 3, r5; check r7, 4; r8 = lt r7, 2; r9 = eq r8, 0; r10 = div r9, 4; r11 = eq r10, 0; branch r11, b2, b3; b2: return r4; b3: return r9; }`

// manyCalls has calls of several functions, in a loop, in blocks that are not reached and in what is called, arrays of each kind, all instructions and ends; the function m has a phi.
const manyCalls = `cell c = 5; array x[2] small; array y[3]; main m;
func m params 0 regs 3 { local[2]; b0: r0 = get c0; r0 = add r0, 1; r1 = call g(r0, 2; a0); jump b1; b1: r2 = phi b0: r1; call f(); return; }
func g params 2 regs 5 result { param[2]; global y; local[2]; b0: r2 = call h(r1; a2); store a1[r0] = r2; r3 = load a0[1]; print r3; call h(7; a0); branch r2, b1, b2; b1: r4 = call h(r4; a0); return r4; b2: call i(); return r1; b3: call i(); trap; }
func f params 0 regs 4 { local[2]; b0: r0 = 3; jump b1; b1: r0 = sub r0, 1; r1 = call h(r0; a0); print r1; call i(); put c0 = r1; branch r0, b1, b2; b2: r2 = call g(r1, r0; a0); check r2, 100; return; }
func h params 1 regs 3 result { param[2]; global x; local[1]; b0: r1 = load a2[0]; store a2[0] = r0; r2 = get c0; r2 = and r2, 3; store a1[r2] = r1; r1 = load a0[r2]; store a0[0] = r0; branch r1, b1, b2; b1: return r2; b2: return r1; }
func i params 0 regs 2 { global y; b0: r0 = load a0[2]; r1 = add r1, r0; print r1; store a0[2] = 9; return; }`
