package peep_test

import (
	"fmt"
	"strings"
	"testing"

	"cupel/api"
	"cupel/samples"
)

// P16.1: the blocks in reverse postorder, in each its instructions in order and then its end; the same place again.
func TestOrder(t *testing.T) {
	samples.ExpectSoundRows(t, pass, []row{
		{"reverse postorder", "1 regs 5", "b0: r1 = add 1, r0; branch r0, b1, b3; b1: r2 = add r1, 1; jump b2; b2: r3 = add r1, 2; return; b3: r4 = add r1, 3; jump b2;", "b0: r1 = add r0, 1; branch r0, b1, b3; b1: r2 = add r0, 2; jump b2; b2: r3 = add r0, 3; return; b3: r4 = add r0, 4; jump b2;", "b0:0/2 b3:0/10 b1:0/10 b2:0/10"},
		{"a branch with exchanged blocks", "1 regs 4", "b0: r1 = eq r0, 0; branch r1, b1, b2; b1: r2 = sub r0, 1; return; b2: r3 = sub r0, 2; return;", "b0: r1 = eq r0, 0; branch r0, b2, b1; b1: r2 = add r0, -1; return; b2: r3 = add r0, -2; return;", "b0:end/21 b2:0/9 b1:0/9"},
		{"all rules for instructions", "2 regs 19", "b0: r2 = mul 3, r0; r3 = sub r0, 0; r4 = rem r0, 1; r5 = or r0, -1; r6 = sub r0, r0; r7 = div r0, -1; r8 = mul r0, 8; r9 = sub r0, 2; r10 = add r9, 3; r11 = xor r0, 6; r12 = xor r11, 5; r13 = mul r2, 5; r14 = shl r8, 4; r15 = sub 0, r7; r16 = lt r0, r1; r17 = ne r16, 0; r18 = eq r16, 0; return;", "b0: r2 = mul r0, 3; r3 = r0; r4 = 0; r5 = -1; r6 = 0; r7 = sub 0, r0; r8 = shl r0, 3; r9 = add r0, -2; r10 = add r0, 1; r11 = xor r0, 6; r12 = xor r0, 3; r13 = mul r0, 15; r14 = shl r0, 7; r15 = r0; r16 = lt r0, r1; r17 = r16; r18 = le r1, r0; return;", "b0:0/2 b0:1/3 b0:2/4 b0:3/5 b0:4/6 b0:5/7 b0:6/8 b0:7/9 b0:8/10 b0:10/11 b0:11/12 b0:12/13 b0:13/14 b0:15/15 b0:16/16"},
		same("nothing", "0 regs 0", "b0: return;"),
	})
}

// P16.1: blocks that are not reached stay as they are.
func TestNotReached(t *testing.T) {
	samples.ExpectSoundRows(t, pass, []row{
		same("a block", "1 regs 5", "b0: return; b1: r1 = add 1, r0; r2 = add r1, 2; r3 = add 1, 2; r4 = and r0, 3; check r4, 4; branch r0, b2, b2; b2: return;"),
		{"beside others", "1 regs 4 result", "b0: r1 = add 1, r0; jump b2; b1: r2 = add 1, r0; jump b2; b2: r3 = phi b0: r1, b1: r2; return r3;", "b0: r1 = add r0, 1; jump b2; b1: r2 = add 1, r0; jump b2; b2: r3 = phi b0: r1, b1: r2; return r3;", "b0:0/2"},
	})
}

// P16.1: the first so many applications.
func TestMost(t *testing.T) {
	pass.ExpectSteps(t, "2 regs 6", []string{
		"b0: r2 = and 7, r0; check r2, 8; r3 = mul r1, 3; r4 = mul 6148914691236517206, r3; jump b1; b1: r5 = eq r4, 0; branch r5, b2, b3; b2: branch r5, b3, b3; b3: return;",
		"b0: r2 = and r0, 7; check r2, 8; r3 = mul r1, 3; r4 = mul 6148914691236517206, r3; jump b1; b1: r5 = eq r4, 0; branch r5, b2, b3; b2: branch r5, b3, b3; b3: return;",
		"b0: r2 = and r0, 7; r3 = mul r1, 3; r4 = mul 6148914691236517206, r3; jump b1; b1: r5 = eq r4, 0; branch r5, b2, b3; b2: branch r5, b3, b3; b3: return;",
		"b0: r2 = and r0, 7; r3 = mul r1, 3; r4 = mul r3, 6148914691236517206; jump b1; b1: r5 = eq r4, 0; branch r5, b2, b3; b2: branch r5, b3, b3; b3: return;",
		"b0: r2 = and r0, 7; r3 = mul r1, 3; r4 = mul r1, 2; jump b1; b1: r5 = eq r4, 0; branch r5, b2, b3; b2: branch r5, b3, b3; b3: return;",
		"b0: r2 = and r0, 7; r3 = mul r1, 3; r4 = shl r1, 1; jump b1; b1: r5 = eq r4, 0; branch r5, b2, b3; b2: branch r5, b3, b3; b3: return;",
		"b0: r2 = and r0, 7; r3 = mul r1, 3; r4 = shl r1, 1; jump b1; b1: r5 = eq r4, 0; branch r4, b3, b2; b2: branch r5, b3, b3; b3: return;",
		"b0: r2 = and r0, 7; r3 = mul r1, 3; r4 = shl r1, 1; jump b1; b1: r5 = eq r4, 0; branch r4, b3, b2; b2: jump b3; b3: return;",
	}, "b0:0/2 b0:1/18 b0:2/2 b0:2/12 b0:2/8 b1:end/21 b2:end/19")
}

// P16.1: with faults, the first so many applications as well.
func TestMostWithFaults(t *testing.T) {
	const before = "b0: r2 = lt r0, 8; r3 = eq r2, 0; r4 = div r0, 8; return;"
	steps := []string{before, strings.Replace(before, "eq r2, 0", "lt 8, r0", 1), "b0: r2 = lt r0, 8; r3 = lt 8, r0; r4 = shr r0, 3; return;"}
	made := strings.Fields("b0:1/16 b0:2/17")
	for most := range 4 {
		count := min(most, 2)
		samples.ExpectRows(t, pass, api.Limit{Most: most, Faults: []int{api.FtShift, api.FtNotLess}}, []row{{"with faults", "2 regs 5", before, steps[count], strings.Join(made[:count], " ")}})
	}
}

// P16.1: about as many applications as there can be, which are not too many: there are at most 300 registers, products become shifts by four of them, and other instructions are checks.
func TestManyApplications(t *testing.T) {
	var before, after, made strings.Builder
	before.WriteString("b0: r1 = shl r0, 1; r2 = mul r1, 3; ")
	after.WriteString("b0: r1 = shl r0, 1; r2 = mul r1, 3; ")
	for i := range 296 {
		fmt.Fprintf(&before, "r%d = mul -6148914691236517204, r2; ", i+3) // times 3 it is 4
		fmt.Fprintf(&after, "r%d = shl r0, 3; ", i+3)
		fmt.Fprintf(&made, "b0:%d/2 b0:%d/12 b0:%d/8 b0:%d/13 ", i+2, i+2, i+2, i+2)
	}
	fmt.Fprint(&before, "r299 = and 1, r0; ", strings.Repeat("check r299, 2; ", 101), "branch 1, b1, b1; b1: return;")
	fmt.Fprint(&after, "r299 = and r0, 1; jump b1; b1: return;")
	fmt.Fprint(&made, "b0:298/2 ", strings.Repeat("b0:299/18 ", 101), "b0:end/19")
	samples.ExpectSoundRows(t, pass, []row{{"many", "1 regs 300", before.String(), after.String(), made.String()}})
}

// P16.1: one function of a module; others stay as they are.
func TestOtherFunctions(t *testing.T) {
	const text = "cell c = 1; main h; func f params 1 regs 2 { b0: r1 = %s; print r1; return; } func g params 1 regs 2 { b0: r1 = %s; print r1; return; } func h params 0 regs 1 { b0: r0 = 1; call f(r0); call g(4); r0 = 1; return; }"
	pass.ExpectEach(t, text, samples.Part{Before: "add 1, r0", After: "add r0, 1", Made: "b0:0/2"}, samples.Part{Before: "sub r0, 2", After: "add r0, -2", Made: "b0:0/9"})
	m := samples.Read(t, strings.ReplaceAll(text, "%s", "add 1, r0"))
	pass.ExpectError(t, m, 2, samples.All(), api.ErrDown)
	pass.ExpectError(t, m, 3, samples.All(), api.ErrArg)
	pass.ExpectError(t, m, 0, samples.All(3, 3), api.ErrArg)
}
