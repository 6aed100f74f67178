// What the passes of the layers from 13 on promise alike: P13.2 to P13.4, P14.2 to P14.4, P15.2 to P15.4, P16.2 to P16.4, P17.2 to P17.4, P18.2 to P18.4, the order of the errors of P13.1, P14.1, P15.1, P16.1, P17.1 and P18.1, and P1 for them.

package passes

import (
	"slices"
	"testing"

	"cupel/api"
	"cupel/copies"
	"cupel/dead"
	"cupel/fold"
	"cupel/hoist"
	"cupel/inline"
	"cupel/ir"
	"cupel/peep"
	"cupel/samples"
)

// subject is a pass that is tested, on functions in static single assignment form, or on those without phis.
type subject struct {
	name string
	samples.Pass
}

func subjects() []subject {
	more := func(before int) int { return 100*before + 100 }
	return []subject{
		{"fold", samples.Pass{Number: api.PsFold, Run: fold.Run, Faults: []int{api.FtEqualLess, api.FtFirstOnly}}},
		{"copies", samples.Pass{Number: api.PsCopies, Run: copies.Run, Faults: []int{api.FtMinus, api.FtOverStore, api.FtOverCall}}},
		{"dead", samples.Pass{Number: api.PsDead, Run: dead.Run, Faults: []int{api.FtDivision, api.FtOverGet}}},
		{"peep", samples.Pass{Number: api.PsPeep, Run: peep.Run, Faults: []int{api.FtShift, api.FtNotLess}}},
		{"hoist", samples.Pass{Number: api.PsHoist, Run: hoist.Run, Faults: []int{api.FtStores, api.FtTrap}, Steps: more}},
		{"inline", samples.Pass{Number: api.PsInline, Run: inline.Run, Faults: []int{api.FtZeros, api.FtRegisters}, Steps: more, Form: samples.NoPhi}},
	}
}

// isPlain reports whether a pass is one on functions without phis.
func (p subject) isPlain() bool { return p.Form != nil }

// grows reports whether a pass may make blocks and registers.
func (p subject) grows() bool { return p.isPlain() || p.Number == api.PsHoist }

// many returns the text of a module with much of what there is for a pass to do; the pass is not for its function 0.
func (p subject) many() string {
	if p.isPlain() {
		return manyCalls
	}
	return many
}

// function makes a module whose function 0 is one that a pass is for.
func (p subject) function(t *testing.T, seed uint64, blocks int) api.Module {
	t.Helper()
	if p.isPlain() {
		return samples.Calls(seed)
	}
	return samples.Function(t, seed, blocks)
}

// functions calls look with the modules of many functions that a pass is for.
func (p subject) functions(t *testing.T, count, blocks int, look func(m api.Module)) {
	t.Helper()
	for seed := range uint64(count) {
		look(p.function(t, seed, 1+int(seed)%blocks))
	}
}

// programs calls look with the modules of generated programs all of whose functions are ones that a pass is for.
func (p subject) programs(count int, look func(m api.Module)) {
	if p.isPlain() {
		samples.Lowered(count, look)
	} else {
		samples.Programs(count, look)
	}
}

// blocks returns how many blocks the functions have at most that a pass is tested with: so few that it may make more.
func (p subject) blocks() int {
	if p.grows() {
		return 40
	}
	return api.MaxIBlocks
}

// each runs a test for each pass.
func each(t *testing.T, test func(t *testing.T, p subject)) {
	for _, p := range subjects() {
		t.Run(p.name, func(t *testing.T) { test(t, p) })
	}
}

// many has cells, arrays of each kind, calls, all instructions, constants, copies, phis of one operand, instructions that are equal, or not used, or without an effect, operations of what others have as their results, branches by constants and comparisons, blocks that are not reached, and a loop with what is the same each time; the function m is not in static single assignment form.
const many = `cell c = 5; array x[2] small; main m;
func m params 0 regs 3 { local[2]; b0: r0 = get c0; r0 = add r0, 1; r1 = call g(r0, 2; a0); r1 = call h(1; a0); call f(); return; }
func g params 2 regs 7 result { param[2]; b0: r2 = 1; store a0[r2] = r2; r3 = load a0[r0]; check r2, 7; branch r2, b1, b2; b1: jump b3; b2: jump b3; b3: r4 = phi b1: r2, b2: r1; check 1, 7; check r2, 7; r5 = load a0[r0]; r6 = load a0[r0]; return r4; }
func f params 0 regs 13 { global x; local[3]; b0: r0 = 3; r1 = div r0, 0; put c0 = r0; r7 = get c0; print r7; put c0 = 4; r10 = rem 1, r0; store a1[0] = r0; jump b1; b1: r2 = phi b0: 1, b2: r4, b5: r6; r3 = phi b0: r1, b2: r2, b5: 4; r8 = phi b0: r7, b2: r8, b5: r7; r4 = or r2, 1; branch r4, b2, b3; b2: r9 = or 1, r2; r11 = mul r0, r0; r12 = load a1[r11]; print r12; branch r3, b1, b4; b3: jump b4; b4: return; b5: r6 = r0; branch 1, b1, b2; }
func h params 1 regs 12 result { param[2]; b0: r1 = 2; r2 = call g(r1, r0; a0); branch r0, b1, b1; b1: r3 = phi b0: r1; r5 = phi b0: r2; r4 = lt r3, r3; r6 = lt 2, r5; r7 = and 3, r5; check r7, 4; r8 = lt r7, 2; r9 = eq r8, 0; r10 = div r9, 4; r11 = eq r10, 0; branch r11, b2, b3; b2: return r4; b3: return r9; }`

// manyCalls has calls of several functions, in a loop, in blocks that are not reached and in what is called, arrays of each kind, all instructions and ends; the function m has a phi.
const manyCalls = `cell c = 5; array x[2] small; array y[3]; main m;
func m params 0 regs 3 { local[2]; b0: r0 = get c0; r0 = add r0, 1; r1 = call g(r0, 2; a0); jump b1; b1: r2 = phi b0: r1; call f(); return; }
func g params 2 regs 5 result { param[2]; global y; local[2]; b0: r2 = call h(r1; a2); store a1[r0] = r2; r3 = load a0[1]; print r3; call h(7; a0); branch r2, b1, b2; b1: r4 = call h(r4; a0); return r4; b2: call i(); return r1; b3: call i(); trap; }
func f params 0 regs 4 { local[2]; b0: r0 = 3; jump b1; b1: r0 = sub r0, 1; r1 = call h(r0; a0); print r1; call i(); put c0 = r1; branch r0, b1, b2; b2: r2 = call g(r1, r0; a0); check r2, 100; return; }
func h params 1 regs 3 result { param[2]; global x; local[1]; b0: r1 = load a2[0]; store a2[0] = r0; r2 = get c0; r2 = and r2, 3; store a1[r2] = r1; r1 = load a0[r2]; store a0[0] = r0; branch r1, b1, b2; b1: return r2; b2: return r1; }
func i params 0 regs 2 { global y; b0: r0 = load a0[2]; r1 = add r1, r0; print r1; store a0[2] = 9; return; }`

// answer is what a pass returns.
type answer struct {
	m    api.Module
	list []api.Applied
	e    api.Errno
}

func (p subject) ask(m api.Module, k int, x api.Limit) answer {
	made, list, e := p.Run(m, k, x)
	return answer{made, list, e}
}

func same(a, b answer) bool {
	return ir.Same(a.m, b.m) && slices.Equal(a.list, b.list) && a.e == b.e
}
