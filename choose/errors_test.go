package choose_test

import (
	"fmt"
	"slices"
	"strings"
	"testing"

	"cupel/api"
	"cupel/choose"
	"cupel/ir"
	"cupel/samples"
)

// phi is a module in which a function that is not Main has a phi.
const phi = "main f; func f params 0 regs 0 { b0: return; } func g params 0 regs 1 { b0: jump b1; b1: r0 = phi b0: 1; print r0; return; }"

// P21.1: functions with phis, also in blocks that are not reached, and without operands.
func TestMakePhis(t *testing.T) {
	for _, text := range []string{
		phi,
		"main f; func f params 0 regs 1 { b0: jump b1; b1: r0 = phi b0: 1; return; }",
		"main f; func f params 0 regs 1 { b0: return; b1: r0 = phi b1: 1; jump b1; }",
		"main f; func f params 0 regs 1 { b0: return; b1: r0 = phi; return; }",
	} {
		for _, faults := range faultLists() {
			expectError(t, samples.Read(t, text), samples.All(faults...), api.ErrDown)
		}
	}
}

// P21.1: lists that are not ascending numbers of faults, each once.
func TestMakeFaults(t *testing.T) {
	m := samples.Read(t, "main f; func f params 0 regs 0 { b0: return; }")
	for _, faults := range [][]int{{0}, {-1}, {25}, {least}, {greatest}, {1, 1}, {2, 1}, {1, 25}, {0, 1}, {19, 21, 20}, {1, 2, 3, 3}} {
		expectError(t, m, samples.All(faults...), api.ErrArg)
	}
	for _, faults := range [][]int{nil, {}, {1}, {24}, {1, 24}, {19, 20, 21}, {1, 2, 3, 4, 5, 6, 7, 8, 9, 10, 11, 12, 13, 14, 15, 16, 17, 18, 19, 20, 21, 22, 23, 24}} {
		if v, e := choose.Make(m, samples.All(faults...)); e != api.OK || len(v.Funcs) != 1 {
			t.Errorf("Make with %v: error %d", faults, e)
		}
	}
}

// wide is a module whose function k of three has exactly so many virtual registers.
func wide(t *testing.T, k, regs int) api.Module {
	t.Helper()
	const arrays = 8
	var body strings.Builder
	body.WriteString(strings.Repeat("local[1]; ", arrays) + "b0: ")
	left := regs - api.MaxRegs - 1 - arrays
	for ; left >= 16; left -= 16 {
		body.WriteString("call g(1, 2, 3, 4, 5, 6, 7, 8; a0, a1, a2, a3, a4, a5, a6, a7); ")
	}
	body.WriteString(strings.Repeat("print 1; ", left) + "return; ")
	list := []string{"func m params 0 regs 0 { b0: return; }", "func e params 0 regs 0 { b0: return; }", "func d params 0 regs 0 { b0: return; }"}
	list[k] = strings.Replace(list[k], "regs 0 { b0: return; ", "regs 300 { "+body.String(), 1)
	return samples.Read(t, "main m; "+strings.Join(list, " ")+" func g params 8 regs 8 { "+strings.Repeat("param[1]; ", arrays)+"b0: return; }")
}

// P21.1: as many virtual registers as there may be, and one more, in any function.
func TestMakeLong(t *testing.T) {
	for k := range 3 {
		for _, regs := range []int{3999, 4000} {
			if v := made(t, wide(t, k, regs)); v.Funcs[k].Regs != regs {
				t.Errorf("%d registers, want %d", v.Funcs[k].Regs, regs)
			}
		}
		for _, regs := range []int{4001, 4016, 6400} {
			expectError(t, wide(t, k, regs), samples.All(), api.ErrLong)
			expectError(t, wide(t, k, regs), api.Limit{Faults: own()}, api.ErrLong)
		}
	}
}

// P21.1: faults may make room: what they leave out needs no registers.
func TestMakeLongByFaults(t *testing.T) {
	m := wide(t, 0, 3999)
	m.Funcs[0].Arrays[0].Small = true
	m.Funcs[3].Arrays[0].Small = true
	f := &m.Funcs[0]
	store := api.Instr{Op: api.IxStore, To: -1, A: api.Opd{Reg: -1}, B: api.Opd{Reg: 0}}
	f.Blocks[0].Code = append(f.Blocks[0].Code[:len(f.Blocks[0].Code)-1], store) // instead of one more print
	if v := made(t, m); v.Funcs[0].Regs != 4000 {
		t.Errorf("%d registers", v.Funcs[0].Regs)
	}
	f.Blocks[0].Code = append(f.Blocks[0].Code, api.Instr{Op: api.IxPrint, To: -1, A: api.Opd{Reg: -1}})
	expectError(t, m, samples.All(), api.ErrLong)
	if v := made(t, m, api.FtChoose3); v.Funcs[0].Regs != 4000 {
		t.Errorf("%d registers", v.Funcs[0].Regs)
	}
}

// P21.1, R2: the errors in their order.
func TestMakeOrder(t *testing.T) {
	down, long, wrong := samples.Read(t, phi), wide(t, 1, 4001), samples.Read(t, phi)
	wrong.Funcs[1].Blocks[0].End.To = 5
	many := wide(t, 1, 4001)
	many.Funcs[1].Regs = api.MaxRegs + 1
	both := wide(t, 1, 4001)
	both.Funcs[0].Regs = 1
	both.Funcs[0].Blocks = slices.Clone(down.Funcs[1].Blocks)
	if e := ir.Check(both); e != api.OK {
		t.Fatalf("Check: %d", e)
	}
	for _, c := range []struct {
		m      api.Module
		faults []int
		want   api.Errno
	}{
		{wrong, nil, api.ErrArg}, {wrong, []int{0}, api.ErrArg}, {many, nil, api.ErrLong}, {many, []int{0}, api.ErrLong},
		{down, []int{0}, api.ErrArg}, {down, nil, api.ErrDown}, {long, []int{25}, api.ErrArg}, {long, nil, api.ErrLong}, {both, []int{2, 1}, api.ErrArg}, {both, nil, api.ErrDown},
		{api.Module{}, nil, api.ErrArg}, {api.Module{Funcs: make([]api.IFunc, 21)}, nil, api.ErrLong},
	} {
		expectError(t, c.m, samples.All(c.faults...), c.want)
	}
}

// P21.5: the longest code that there is, and the greatest memory.
func TestMakeGreatest(t *testing.T) {
	var text strings.Builder
	for i := range api.MaxICells {
		fmt.Fprintf(&text, "cell c%d = %d; ", i, i)
	}
	for i := range api.MaxIArrays {
		fmt.Fprintf(&text, "array x%d[16]; ", i)
	}
	call := "r0 = call g(r0, r0, r0, r0, r0, r0, r0, r0; a0, a1, a2, a3, a4, a5, a6, a7); "
	text.WriteString("main m; func m params 0 regs 0 { b0: return; } func f params 8 regs 300 result { " + strings.Repeat("param[16]; ", 8) + strings.Repeat("local[16]; ", 12) + "b0: " + strings.Repeat(call, 400))
	for b := 1; b < api.MaxIBlocks; b++ {
		fmt.Fprintf(&text, "branch r299, b%d, b%d; b%d: ", b, b, b)
	}
	text.WriteString("return -4294967296; } func g params 8 regs 8 result { " + strings.Repeat("param[16]; ", 8) + "b0: return r0; }")
	v := made(t, samples.Read(t, text.String()))
	if v.Words != 360 || len(v.Data) != 40 || len(v.Funcs[1].Blocks[0]) != 16+1+1+12*17+400*18+2 || v.Funcs[1].Args != 16 || len(v.Funcs[1].Locals) != 12 {
		t.Errorf("%d words, %d of them not 0, %d instructions", v.Words, len(v.Data), len(v.Funcs[1].Blocks[0]))
	}
}
