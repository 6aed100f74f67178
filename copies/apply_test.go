package copies_test

import (
	"fmt"
	"math"
	"slices"
	"strings"
	"testing"

	"cupel/api"
	"cupel/samples"
)

// P14.1: blocks in reverse postorder, in sweeps; the first rule that can be applied; the same place again.
func TestOrder(t *testing.T) {
	samples.ExpectSoundRows(t, pass, []row{
		{"reverse postorder", "1 regs 4", "b0: r1 = r0; branch r0, b1, b3; b1: print r1; jump b2; b2: r2 = r1; return; b3: r3 = r1; jump b2;", "b0: r1 = r0; branch r0, b1, b3; b1: print r0; jump b2; b2: r2 = r0; return; b3: r3 = r0; jump b2;", "b3:0 b1:0 b2:0"},
		{"a second sweep", "1 regs 5", "b0: jump b1; b1: r1 = phi b0: r0, b2: r3; r2 = add r1, 1; branch r2, b2, b3; b2: r3 = phi b1: r1; jump b1; b3: r4 = add r0, 1; print r4; return;", "b0: jump b1; b1: r1 = r0; r2 = add r0, 1; branch r2, b2, b3; b2: r3 = r0; jump b1; b3: r4 = r2; print r2; return;", "b2:0/2 b1:0 b1:0/2 b1:1 b3:0/3 b3:1 b2:0"},
		{"the rule 1 before others", "1 regs 4", "b0: r1 = r0; r2 = add r0, r1; r3 = add r1, r1; print r3; return;", "b0: r1 = r0; r2 = add r0, r0; r3 = r2; print r2; return;", "b0:1 b0:2 b0:2 b0:2/3 b0:3"},
		{"one becomes known by another", "2 regs 8", "b0: r2 = add r0, r1; r3 = add r1, r0; r4 = mul r2, r3; r5 = mul r3, r2; store a0[r4] = r5; r6 = load a0[r5]; r7 = eq r6, r4; print r7; return;", "b0: r2 = add r0, r1; r3 = r2; r4 = mul r2, r2; r5 = r4; store a0[r4] = r4; r6 = r4; r7 = eq r4, r4; print r7; return;", "b0:1/3 b0:2 b0:3 b0:3/3 b0:4 b0:5 b0:5/5 b0:6"},
		same("nothing", "0 regs 0", "b0: return;"),
	})
}

// steps are the bodies after 0, 1, 2 .. applications.
var steps = []string{
	"b0: r1 = add r0, 1; check r0, 9; jump b1; b1: r2 = phi b0: r0, b1: r4; check r2, 9; r3 = add 1, r2; r4 = r2; branch r3, b1, b2; b2: print r4; return;",
	"b0: r1 = add r0, 1; check r0, 9; jump b1; b1: r2 = phi b0: r0, b1: r2; check r2, 9; r3 = add 1, r2; r4 = r2; branch r3, b1, b2; b2: print r4; return;",
	"b0: r1 = add r0, 1; check r0, 9; jump b1; b1: r2 = r0; check r2, 9; r3 = add 1, r2; r4 = r2; branch r3, b1, b2; b2: print r4; return;",
	"b0: r1 = add r0, 1; check r0, 9; jump b1; b1: r2 = r0; check r0, 9; r3 = add 1, r2; r4 = r2; branch r3, b1, b2; b2: print r4; return;",
	"b0: r1 = add r0, 1; check r0, 9; jump b1; b1: r2 = r0; r3 = add 1, r2; r4 = r2; branch r3, b1, b2; b2: print r4; return;",
	"b0: r1 = add r0, 1; check r0, 9; jump b1; b1: r2 = r0; r3 = add 1, r0; r4 = r2; branch r3, b1, b2; b2: print r4; return;",
	"b0: r1 = add r0, 1; check r0, 9; jump b1; b1: r2 = r0; r3 = r1; r4 = r2; branch r3, b1, b2; b2: print r4; return;",
	"b0: r1 = add r0, 1; check r0, 9; jump b1; b1: r2 = r0; r3 = r1; r4 = r0; branch r3, b1, b2; b2: print r4; return;",
	"b0: r1 = add r0, 1; check r0, 9; jump b1; b1: r2 = r0; r3 = r1; r4 = r0; branch r1, b1, b2; b2: print r4; return;",
	"b0: r1 = add r0, 1; check r0, 9; jump b1; b1: r2 = r0; r3 = r1; r4 = r0; branch r1, b1, b2; b2: print r0; return;",
}

// P14.1: the first so many applications.
func TestMost(t *testing.T) {
	pass.ExpectSteps(t, "1 regs 5", steps, "b1:0 b1:0/2 b1:1 b1:1/4 b1:1 b1:1/3 b1:2 b1:end b2:0")
}

// P14.1: one function of a module; others stay as they are.
func TestOtherFunctions(t *testing.T) {
	const text = "cell c = 1; main h; func f params 1 regs 2 { b0: r1 = r0; print %s; return; } func g params 0 regs 3 { b0: r0 = get c0; %s return; } func h params 0 regs 1 { b0: r0 = 1; call f(r0); call g(); r0 = 1; return; }"
	pass.ExpectEach(t, text, samples.Part{Before: "r1", After: "r0", Made: "b0:1"}, samples.Part{Before: "r1 = get c0; check r0, 2; check r1, 2; r2 = add r1, r1;", After: "r1 = r0; check r0, 2; r2 = add r0, r0;", Made: "b0:1/6 b0:3 b0:3/4 b0:3 b0:3"})
	pass.ExpectError(t, samples.Read(t, strings.NewReplacer("print %s;", "", "%s", "").Replace(text)), 2, samples.All(), api.ErrDown)
}

// many is the body of a function with so many operands that are copies: 57 blocks lead to one with phis, which have two other operands, and then come prints of a copy.
func many(phis, prints int, operand string) string {
	var s strings.Builder
	s.WriteString("b0: r1 = r0; branch r0, b58, b1; ")
	for b := 1; b < 57; b++ {
		fmt.Fprintf(&s, "b%d: branch r0, b58, b%d; ", b, b+1)
	}
	s.WriteString("b57: jump b58; b58: ")
	for i := range phis {
		fmt.Fprintf(&s, "r%d = phi b0: %d", 2+i, i)
		for b := 1; b < 58; b++ {
			fmt.Fprintf(&s, ", b%d: %s", b, operand)
		}
		s.WriteString("; ")
	}
	return s.String() + strings.Repeat("print "+operand+"; ", prints) + "return;"
}

// P14.1: 4000 applications may be made, and no more.
func TestTooMany(t *testing.T) {
	const phis = 70 // each with 57 operands that are copies
	made := ""
	for i := range phis {
		made += strings.Repeat(fmt.Sprintf("b58:%d ", i), 57)
	}
	for i := range 10 {
		made += fmt.Sprintf("b58:%d ", phis+i)
	}
	head := fmt.Sprintf("1 regs %d", 2+phis)
	samples.ExpectRows(t, pass, samples.All(), []row{{"4000", head, many(phis, 10, "r1"), many(phis, 10, "r0"), made}})

	m := samples.Of(t, head, many(phis, 11, "r1"))
	for _, x := range []api.Limit{samples.All(), samples.All(api.FtMinus), {Most: 4001}, {Most: 4002}, {Most: math.MaxInt}} {
		pass.ExpectError(t, m, 0, x, api.ErrLong)
	}
	// No more than the limit says would be made.
	for _, most := range []int{0, 1, 3999, 4000} {
		if _, list := pass.Made(t, m, 0, api.Limit{Most: most}); !slices.Equal(list, pass.Applied(0, made)[:most]) {
			t.Errorf("Most %d: %d applications", most, len(list))
		}
	}
	// The errors of arguments come first.
	pass.ExpectError(t, m, 3, samples.All(), api.ErrArg)
	pass.ExpectError(t, m, 0, samples.All(3, 3), api.ErrArg)
	m.Funcs[0].Blocks[58].Code[phis] = api.Instr{Op: api.IxCopy, To: 1}
	pass.ExpectError(t, m, 0, samples.All(), api.ErrDown)
}
