package hoist_test

import (
	"fmt"
	"math"
	"slices"
	"strings"
	"testing"

	"cupel/api"
	"cupel/samples"
)

// P17.1: which loop is tried first, and in which order its blocks and instructions are.
func TestOrder(t *testing.T) {
	samples.ExpectSoundRows(t, pass, []row{
		{"the one with fewer blocks", "1 regs 3", "b0: jump b1; b1: r1 = 1; print r1; jump b2; b2: branch r0, b1, b3; b3: jump b4; b4: r2 = 2; print r2; branch r0, b4, b5; b5: return;", "b0: r1 = 1; jump b1; b1: print r1; jump b2; b2: branch r0, b1, b3; b3: r2 = 2; jump b4; b4: print r2; branch r0, b4, b5; b5: return;", "b4:0/2 b1:0/2"},
		{"the one with the lower head", "1 regs 3", "b0: jump b3; b1: r1 = 1; print r1; branch r0, b1, b2; b2: return; b3: r2 = 2; print r2; branch r0, b3, b4; b4: jump b1;", "b0: r2 = 2; jump b3; b1: print r1; branch r0, b1, b2; b2: return; b3: print r2; branch r0, b3, b4; b4: r1 = 1; jump b1;", "b1:0/2 b3:0/2"},
		{"the lower head, not the lower block", "1 regs 3", "b0: jump b3; b1: r1 = 1; branch r0, b4, b2; b2: return; b3: r2 = 2; branch r0, b5, b6; b4: jump b1; b5: jump b3; b6: jump b1;", "b0: r2 = 2; jump b3; b1: branch r0, b4, b2; b2: return; b3: branch r0, b5, b6; b4: jump b1; b5: jump b3; b6: r1 = 1; jump b1;", "b1:0/2 b3:0/2"},
		{"blocks in reverse postorder", "1 regs 5", "b0: jump b3; b1: r1 = 1; branch r0, b3, b4; b2: r2 = 2; r3 = r2; jump b1; b3: r4 = 4; print r4; branch r0, b2, b1; b4: return;", "b0: r4 = 4; r2 = 2; r3 = r2; r1 = 1; jump b3; b1: branch r0, b3, b4; b2: jump b1; b3: print r4; branch r0, b2, b1; b4: return;", "b3:0/2 b2:0/2 b2:0/2 b1:0/2"},
		{"of two ways the lower block last", "1 regs 4", "b0: jump b1; b1: branch r0, b2, b3; b2: r1 = 1; jump b4; b3: r2 = 2; jump b4; b4: r3 = 3; branch r0, b1, b5; b5: return;", "b0: r2 = 2; r1 = 1; r3 = 3; jump b1; b1: branch r0, b2, b3; b2: jump b4; b3: jump b4; b4: branch r0, b1, b5; b5: return;", "b3:0/2 b2:0/2 b4:0/2"},
		{"an inner loop before the one around it", "2 regs 5", "b0: jump b1; b1: r2 = 2; jump b2; b2: r3 = 3; branch r0, b2, b3; b3: r4 = r3; branch r1, b1, b4; b4: return;", "b0: r2 = 2; r3 = 3; r4 = r3; jump b1; b1: jump b2; b2: branch r0, b2, b3; b3: branch r1, b1, b4; b4: return;", "b2:0/2 b1:0/2 b1:0/2 b3:0/2"},
		{"three loops in each other", "1 regs 2", "b0: jump b1; b1: jump b2; b2: jump b3; b3: r1 = 1; print r1; branch r0, b3, b4; b4: branch r0, b2, b5; b5: branch r0, b1, b6; b6: return;", "b0: r1 = 1; jump b1; b1: jump b2; b2: jump b3; b3: print r1; branch r0, b3, b4; b4: branch r0, b2, b5; b5: branch r0, b1, b6; b6: return;", "b3:0/2 b2:0/2 b1:0/2"},
	})
}

// P17.1: a block ahead belongs to the loops around it, whose order it changes, and instructions go on from there.
func TestOrderWithBlocksAhead(t *testing.T) {
	samples.ExpectSoundRows(t, pass, []row{
		{"one for each loop", "2 regs 3", "b0: branch r0, b1, b4; b1: branch r1, b2, b3; b2: r2 = 5; print r2; branch r0, b2, b3; b3: branch r1, b1, b4; b4: return;", "b0: branch r0, b6, b4; b1: branch r1, b5, b3; b2: print r2; branch r0, b2, b3; b3: branch r1, b1, b4; b4: return; b5: jump b2; b6: r2 = 5; jump b1;", "b2:end/1 b2:0/2 b1:end/1 b5:0/2"},
		{"a loop gets more blocks than another one", "1 regs 4", "b0: jump b1; b1: r1 = 1; print r1; branch r0, b2, b3; b2: r2 = 2; print r2; branch r0, b2, b1; b3: jump b4; b4: r3 = 3; print r3; jump b5; b5: branch r0, b4, b6; b6: return;", "b0: r1 = 1; r2 = 2; jump b1; b1: print r1; branch r0, b7, b3; b2: print r2; branch r0, b2, b1; b3: r3 = 3; jump b4; b4: print r3; jump b5; b5: branch r0, b4, b6; b6: return; b7: jump b2;", "b2:end/1 b2:0/2 b4:0/2 b1:0/2 b7:0/2"},
		{"only where something is moved", "2 regs 3", "b0: branch r0, b1, b2; b1: print r0; branch r0, b1, b2; b2: branch r1, b3, b4; b3: r2 = get c0; print r2; branch r1, b3, b4; b4: return;", "b0: branch r0, b1, b2; b1: print r0; branch r0, b1, b2; b2: branch r1, b5, b4; b3: print r2; branch r1, b3, b4; b4: return; b5: r2 = get c0; jump b3;", "b3:end/1 b3:0/2"},
	})
}

// P17.1: the first so many applications; those of both rules count.
func TestMost(t *testing.T) {
	pass.ExpectSteps(t, "2 regs 6", []string{
		"b0: branch r0, b1, b4; b1: jump b2; b2: r2 = phi b1: 3, b2: r3; r3 = sub r2, 1; r4 = mul r0, r0; print r4; r5 = load a2[r4]; print r5; branch r3, b2, b3; b3: branch r1, b1, b4; b4: return;",
		"b0: branch r0, b1, b4; b1: r4 = mul r0, r0; jump b2; b2: r2 = phi b1: 3, b2: r3; r3 = sub r2, 1; print r4; r5 = load a2[r4]; print r5; branch r3, b2, b3; b3: branch r1, b1, b4; b4: return;",
		"b0: branch r0, b1, b4; b1: r4 = mul r0, r0; r5 = load a2[r4]; jump b2; b2: r2 = phi b1: 3, b2: r3; r3 = sub r2, 1; print r4; print r5; branch r3, b2, b3; b3: branch r1, b1, b4; b4: return;",
		"b0: branch r0, b5, b4; b1: r4 = mul r0, r0; r5 = load a2[r4]; jump b2; b2: r2 = phi b1: 3, b2: r3; r3 = sub r2, 1; print r4; print r5; branch r3, b2, b3; b3: branch r1, b1, b4; b4: return; b5: jump b1;",
		"b0: branch r0, b5, b4; b1: r5 = load a2[r4]; jump b2; b2: r2 = phi b1: 3, b2: r3; r3 = sub r2, 1; print r4; print r5; branch r3, b2, b3; b3: branch r1, b1, b4; b4: return; b5: r4 = mul r0, r0; jump b1;",
		"b0: branch r0, b5, b4; b1: jump b2; b2: r2 = phi b1: 3, b2: r3; r3 = sub r2, 1; print r4; print r5; branch r3, b2, b3; b3: branch r1, b1, b4; b4: return; b5: r4 = mul r0, r0; r5 = load a2[r4]; jump b1;",
	}, "b2:2/2 b2:3/2 b1:end/1 b1:0/2 b1:0/2")
}

// nested is a body of 25 loops in each other, with code ahead of all of them and in the innermost one.
func nested(ahead, inside string) string {
	var s strings.Builder
	s.WriteString("b0: " + ahead + "jump b1; ")
	for b := 1; b < 25; b++ {
		fmt.Fprintf(&s, "b%d: jump b%d; ", b, b+1)
	}
	s.WriteString("b25: " + inside + "jump b26; ")
	for b := 26; b < 51; b++ {
		fmt.Fprintf(&s, "b%d: branch r0, b%d, b%d; ", b, 51-b, b+1)
	}
	return s.String() + "b51: return;"
}

// P17.1: no number of applications is too great.
func TestManyApplications(t *testing.T) {
	code, made := "", ""
	for r := 1; r <= 180; r++ {
		code += fmt.Sprintf("r%d = %d; ", r, r)
	}
	for b := 25; b > 0; b-- {
		made += strings.Repeat(fmt.Sprintf("b%d:0/2 ", b), 180)
	}
	r := row{"4500", "1 regs 181", nested("", code), nested(code, ""), made}
	samples.ExpectRows(t, pass, samples.All(), []row{r})
	want := pass.Applied(0, made)
	for _, most := range []int{3999, 4000, 4001, 4499, 4500, math.MaxInt} {
		if _, list := pass.Made(t, samples.Of(t, r.Head, r.Before), 0, api.Limit{Most: most}); !slices.Equal(list, want[:min(most, 4500)]) {
			t.Errorf("Most %d: %d applications", most, len(list))
		}
	}
}

// P17.1: one function of a module; others stay as they are.
func TestOtherFunctions(t *testing.T) {
	const text = "cell c = 1; main h; func f params 1 regs 2 { b0: %s b2: return; } func g params 0 regs 3 { local[4]; b0: %s b2: return; } func h params 0 regs 1 { b0: r0 = 1; call f(0); call f(r0); call g(); r0 = 1; return; }"
	pass.ExpectEach(t, text,
		samples.Part{Before: "jump b1; b1: r1 = get c0; print r1; branch r0, b1, b2;", After: "r1 = get c0; jump b1; b1: print r1; branch r0, b1, b2;", Made: "b1:0/2"},
		samples.Part{Before: "jump b1; b1: r0 = 5; r1 = load a0[r0]; r2 = div r1, r0; print r2; branch r1, b1, b2;", After: "r0 = 5; r1 = load a0[r0]; jump b1; b1: r2 = div r1, r0; print r2; branch r1, b1, b2;", Made: "b1:0/2 b1:0/2"})
	pass.ExpectError(t, samples.Read(t, strings.ReplaceAll(text, "%s", "jump b2; b1: trap;")), 2, samples.All(), api.ErrDown)
}
