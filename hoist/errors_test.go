package hoist_test

import (
	"fmt"
	"math"
	"strings"
	"testing"

	"cupel/api"
	"cupel/ir"
	"cupel/parts"
	"cupel/samples"
)

// size is how much a function has.
type size struct{ blocks, regs, instrs int }

// sized is a module with a function of a size, which has two loops: the rule 1 makes a block, a register and a phi for the first one, and a block alone for the second one, which is greater; and in each of them there is one instruction to be moved.
func sized(t *testing.T, n size) api.Module {
	t.Helper()
	var s strings.Builder
	s.WriteString("b0: " + strings.Repeat("print 1; ", n.instrs-4) + "branch r0, b1, b2; b1: jump b2; b2: r1 = phi b0: 5, b1: r0, b2: r1; r2 = 7; branch r0, b2, b3; b3: branch r0, b4, b6; b4: r3 = 8; print r3; jump b5; b5: branch r0, b4, b6; ")
	for b := 6; b < n.blocks; b++ {
		fmt.Fprintf(&s, "b%d: return; ", b)
	}
	return samples.Of(t, fmt.Sprint("1 regs ", n.regs), s.String())
}

// sizeOf returns how much the function 0 has.
func sizeOf(m api.Module) size {
	f := m.Funcs[0]
	return size{len(f.Blocks), f.Regs, parts.Instructions(f)}
}

// P17.1: ErrLong, if an application that is to be made would make too much, and not otherwise.
func TestTooMuch(t *testing.T) {
	made := pass.Applied(0, "b2:end/1 b2:1/2 b4:end/1 b4:0/2")
	for _, c := range []struct {
		of    size
		first int // the application that would make too much: 4 if none does
	}{
		{size{7, 4, 4}, 4},
		{size{58, 299, 399}, 4},
		{size{59, 299, 399}, 2},
		{size{60, 299, 399}, 0},
		{size{58, 300, 399}, 0},
		{size{58, 299, 400}, 0},
		{size{60, 300, 400}, 0},
	} {
		m := sized(t, c.of)
		for _, most := range []int{-1, 0, 1, 2, 3, 4, 5, 4001, math.MaxInt} {
			for _, faults := range pass.FaultLists() {
				x := api.Limit{Most: most, Faults: faults}
				count := min(most, 4)
				if most < 0 {
					count = 4
				}
				if count > c.first {
					pass.ExpectError(t, m, 0, x, api.ErrLong)
				} else if _, list := pass.ExpectModel(t, m, 0, x); len(list) != count || fmt.Sprint(list) != fmt.Sprint(made[:count]) {
					t.Errorf("%v, %v: %v", c.of, x, list)
				}
			}
		}
	}
	got, _ := pass.Made(t, sized(t, size{58, 299, 399}), 0, samples.All())
	if n, most := sizeOf(got), (size{api.MaxIBlocks, api.MaxRegs, api.MaxInstrs}); n != most {
		t.Errorf("%v", n)
	}
}

// P17.1: what is moved needs no room, and neither does a block ahead without phis but its own.
func TestNoRoomNeeded(t *testing.T) {
	full := strings.Repeat("print 1; ", 397)
	samples.ExpectRows(t, pass, samples.All(), []row{
		{"400 instructions", "1 regs 300", "b0: " + full + "branch r0, b1, b2; b1: r1 = phi b0: 2, b1: r1; r2 = 3; print r2; branch r0, b1, b2; b2: return;", "b0: " + full + "branch r0, b3, b2; b1: r1 = phi b1: r1, b3: 2; print r2; branch r0, b1, b2; b2: return; b3: r2 = 3; jump b1;", "b1:end/1 b1:1/2"},
	})
	blocks := ""
	for b := 3; b < 60; b++ {
		blocks += fmt.Sprintf("b%d: jump b2; ", b)
	}
	samples.ExpectRows(t, pass, samples.All(), []row{
		{"60 blocks", "1 regs 2", "b0: jump b1; b1: r1 = 3; branch r0, b1, b2; b2: return; " + blocks, "b0: r1 = 3; jump b1; b1: branch r0, b1, b2; b2: return; " + blocks, "b1:0/2"},
	})
}

// P17.1: the errors of arguments come before ErrLong.
func TestOtherErrorsFirst(t *testing.T) {
	m := sized(t, size{60, 300, 400})
	pass.ExpectError(t, m, 3, samples.All(), api.ErrArg)
	pass.ExpectError(t, m, -1, samples.All(), api.ErrArg)
	pass.ExpectError(t, m, 0, api.Limit{Most: -2}, api.ErrArg)
	pass.ExpectError(t, m, 0, samples.All(api.FtTrap, api.FtStores), api.ErrArg)
	m.Funcs[0].Blocks[4].Code[0].To = 2 // again
	pass.ExpectError(t, m, 0, samples.All(), api.ErrDown)
	pass.ExpectError(t, m, 0, api.Limit{}, api.ErrDown)
	m.Main = 0
	if e := ir.Check(m); e != api.ErrArg {
		t.Fatalf("error %d", e)
	}
	pass.ExpectError(t, m, 0, samples.All(), api.ErrArg)
}
