package ir_test

import (
	"math"
	"slices"
	"strconv"
	"strings"
	"testing"

	"cupel/api"
	"cupel/ir"
)

func expect(t *testing.T, what string, m api.Module, want api.Errno) {
	t.Helper()
	if e := ir.Check(m); e != want {
		t.Errorf("%s: Check is %d, want %d", what, e, want)
	}
}

// changed is a change of the module whole, and what Check then returns.
type changed struct {
	what   string
	change func(m *api.Module)
	want   api.Errno
}

func expectChanged(t *testing.T, list []changed) {
	t.Helper()
	for _, c := range list {
		m := read(t, whole)
		c.change(&m)
		expect(t, c.what, m, c.want)
	}
}

func okIf(good bool) api.Errno {
	if good {
		return api.OK
	}
	return api.ErrArg
}

// body is a module whose only function is main, with so many registers and these blocks.
func body(regs int, blocks ...api.Block) api.Module {
	return api.Module{Funcs: []api.IFunc{{Name: "main", Regs: regs, Blocks: blocks}}}
}

func leave(code ...api.Instr) api.Block {
	return api.Block{Code: code, End: api.Term{Op: api.TmReturn}}
}

// many is a list of so many elements, which a function makes of their indices.
func many[T any](n int, element func(i int) T) []T {
	list := make([]T, n)
	for i := range list {
		list[i] = element(i)
	}
	return list
}

func nameOf(i int) string { return "n" + strconv.Itoa(i) }

// P8.1: how many there may be, which comes before what else is wrong.
func TestLong(t *testing.T) {
	printing := api.Instr{Op: api.IxPrint, To: -1, A: num(1)}
	local := api.Array{Kind: api.AyLocal, Len: 1}
	for what, c := range map[string]struct {
		most   int
		module func(n int) api.Module
	}{
		"cells": {40, func(n int) api.Module {
			m := body(0, leave())
			m.Cells = many(n, func(i int) api.Cell { return api.Cell{Name: nameOf(i)} })
			return m
		}},
		"arrays of the module": {20, func(n int) api.Module {
			m := body(0, leave())
			m.Arrays = many(n, func(i int) api.GArray { return api.GArray{Name: nameOf(i), Len: 1} })
			return m
		}},
		"functions": {20, func(n int) api.Module {
			m := body(0, leave())
			m.Funcs = many(n, func(i int) api.IFunc { return api.IFunc{Name: nameOf(i), Blocks: m.Funcs[0].Blocks} })
			return m
		}},
		"arrays of a function": {20, func(n int) api.Module {
			m := body(0, leave())
			m.Funcs[0].Arrays = many(n, func(int) api.Array { return local })
			return m
		}},
		"registers": {300, func(n int) api.Module { return body(n, leave()) }},
		"blocks":    {60, func(n int) api.Module { return body(0, many(n, func(int) api.Block { return leave() })...) }},
		"instructions of a block": {400, func(n int) api.Module {
			return body(0, leave(many(n, func(int) api.Instr { return printing })...), leave())
		}},
		"instructions of blocks": {400, func(n int) api.Module {
			return body(0, leave(many(n-7, func(int) api.Instr { return printing })...), leave(), leave(many(7, func(int) api.Instr { return printing })...))
		}},
	} {
		expect(t, what, c.module(c.most), api.OK)
		expect(t, what+", one more", c.module(c.most+1), api.ErrLong)
		m := c.module(c.most + 1)
		m.Main = -1
		m.Funcs[0].Name = ""
		expect(t, what+", one more, and wrong", m, api.ErrLong)
		m = c.module(c.most)
		m.Main = -1
		expect(t, what+", wrong", m, api.ErrArg)
	}
	second := read(t, whole)
	second.Funcs[0].Name = "0"
	second.Funcs[3].Regs = math.MaxInt
	expect(t, "the last function", second, api.ErrLong)
	expect(t, "many functions", api.Module{Funcs: make([]api.IFunc, 21)}, api.ErrLong)
	expect(t, "many cells", api.Module{Cells: make([]api.Cell, 41)}, api.ErrLong)
	expect(t, "many arrays", api.Module{Arrays: make([]api.GArray, 21)}, api.ErrLong)
	expect(t, "many wrong instructions", body(0, leave(make([]api.Instr, 401)...)), api.ErrLong)
	expect(t, "wrong instructions", body(0, leave(make([]api.Instr, 400)...)), api.ErrArg)
}

// P8.1: limits of each function are its own.
func TestLimitsOfEach(t *testing.T) {
	code := many(400, func(int) api.Instr { return api.Instr{Op: api.IxCopy, A: num(1)} })
	full := many(60, func(int) api.Block { return leave() })
	full[59].Code = code
	m := api.Module{Funcs: many(20, func(i int) api.IFunc {
		return api.IFunc{Name: nameOf(i), Regs: 300, Blocks: full, Arrays: many(20, func(int) api.Array { return api.Array{Kind: api.AyLocal, Len: 16} })}
	})}
	expect(t, "all that is allowed", m, api.OK)
}

// P8.1: no function, no block, nothing at all.
func TestEmpty(t *testing.T) {
	expect(t, "no function", api.Module{}, api.ErrArg)
	expect(t, "no block", body(0), api.ErrArg)
	expect(t, "one block", body(0, leave()), api.OK)
	expect(t, "a block that is zero", body(0, api.Block{}), api.ErrArg)
	m := body(0, leave())
	m.Funcs = append(m.Funcs, api.IFunc{Name: "f"})
	expect(t, "another function without a block", m, api.ErrArg)
}

// P8.1: names.
func TestNames(t *testing.T) {
	good := []string{"a", "z", "A", "Z", "azAZ09_", "a9_", "z_", "cell", "func", "r0", "b0", "add", "return", strings.Repeat("n", 16)}
	bad := []string{"", "_", "_a", "9", "9a", "a-b", "a b", "@a", "[a", "`a", "{a", "/a", ":a", "a@", "a[", "a`", "a{", "a/", "a:", "é", "aé", "a\x00", " a", "a ", "a\n", "-1", strings.Repeat("n", 17), strings.Repeat("n", 100000)}
	for what, change := range map[string]func(m *api.Module, n string){
		"cell":     func(m *api.Module, n string) { m.Cells[1].Name = n },
		"array":    func(m *api.Module, n string) { m.Arrays[1].Name = n },
		"function": func(m *api.Module, n string) { m.Funcs[1].Name = n },
		"main":     func(m *api.Module, n string) { m.Funcs[0].Name = n },
	} {
		for _, n := range slices.Concat(good, bad) {
			m := read(t, "cell q1 = 0; cell q2 = 0; array q1[1]; array q2[1]; main q1; func q1 params 0 regs 0 { b0: trap; } func q2 params 0 regs 0 { b0: trap; }")
			change(&m, n)
			expect(t, what+" "+n, m, okIf(slices.Contains(good, n)))
		}
	}
	expectChanged(t, []changed{
		{"cells of one name", func(m *api.Module) { m.Cells[1].Name = m.Cells[0].Name }, api.ErrArg},
		{"arrays of one name", func(m *api.Module) { m.Arrays[2].Name = m.Arrays[0].Name }, api.ErrArg},
		{"functions of one name", func(m *api.Module) { m.Funcs[3].Name = m.Funcs[1].Name }, api.ErrArg},
		{"small and great letters", func(m *api.Module) { m.Cells[0].Name, m.Cells[1].Name = "x", "X" }, api.OK},
		{"a cell, an array and a function of one name", func(m *api.Module) { m.Cells[1].Name, m.Arrays[2].Name, m.Funcs[3].Name = "x", "x", "x" }, api.OK},
	})
}

// P8.1: arrays of the module, and main.
func TestModuleHeads(t *testing.T) {
	for _, n := range []int{math.MinInt, -16, -1, 0, 1, 2, 15, 16, 17, 1000, math.MaxInt} {
		m := read(t, "array a[4]; main f; func f params 0 regs 0 { b0: trap; }")
		m.Arrays[0].Len = n
		expect(t, "Len "+strconv.Itoa(n), m, okIf(n >= 1 && n <= 16))
	}
	for _, i := range []int{math.MinInt, -2, -1, 0, 1, 2, 3, 4, 5, math.MaxInt} {
		m := read(t, "main f; func f params 0 regs 0 { b0: trap; } func g params 1 regs 1 { b0: trap; } func h params 0 regs 0 result { b0: trap; } func i params 0 regs 0 { param[1]; b0: trap; } func j params 0 regs 2 { local[1]; b0: trap; }")
		m.Main = i
		expect(t, "Main "+strconv.Itoa(i), m, okIf(i == 0 || i == 4))
	}
}

// P8.1: Params, Regs and arrays of functions.
func TestFunctionHeads(t *testing.T) {
	head := func(f api.IFunc) api.Module {
		m := read(t, "array a[4]; array b[4] small; main f; func f params 0 regs 0 { b0: trap; }")
		f.Name, f.Blocks = "g", m.Funcs[0].Blocks
		m.Funcs = append(m.Funcs, f)
		return m
	}
	for _, params := range []int{math.MinInt, -1, 0, 1, 7, 8, 9, 300, math.MaxInt} {
		for _, regs := range []int{math.MinInt, -1, 0, 1, 7, 8, 9, 299, 300} {
			what := strconv.Itoa(params) + ", " + strconv.Itoa(regs)
			expect(t, "Params and Regs "+what, head(api.IFunc{Params: params, Regs: regs}), okIf(params >= 0 && params <= 8 && params <= regs))
		}
	}
	local, param := api.Array{Kind: api.AyLocal, Len: 3}, api.Array{Kind: api.AyParam, Len: 3}
	for _, n := range []int{0, 1, 7, 8} {
		params := slices.Repeat([]api.Array{param}, n)
		expect(t, "AyParam", head(api.IFunc{Arrays: params}), api.OK)
		expect(t, "AyParam and others", head(api.IFunc{Arrays: slices.Concat(slices.Repeat([]api.Array{local}, 11), params, []api.Array{{Kind: api.AyGlobal}})}), api.OK)
	}
	for _, n := range []int{9, 20} {
		if ir.Check(head(api.IFunc{Arrays: slices.Repeat([]api.Array{param}, n)})) == api.OK {
			t.Errorf("%d AyParam", n)
		}
	}
}

// P8.1: arrays of functions, one by one.
func TestFunctionArrays(t *testing.T) {
	for _, kind := range []int{math.MinInt, -1, 0, 1, 2, 3, 4, math.MaxInt} {
		for _, length := range []int{math.MinInt, -1, 0, 1, 4, 16, 17, math.MaxInt} {
			for _, global := range []int{math.MinInt, -1, 0, 1, 2, 19, math.MaxInt} {
				for _, small := range []bool{false, true} {
					m := read(t, "array a[4]; array b[4] small; main f; func f params 0 regs 0 { b0: trap; } func g params 0 regs 0 { b0: trap; }")
					a := api.Array{Kind: kind, Len: length, Small: small, Global: global}
					m.Funcs[1].Arrays = []api.Array{a}
					sized := (kind == api.AyLocal || kind == api.AyParam) && length >= 1 && length <= 16 && global == 0
					named := kind == api.AyGlobal && length == 0 && !small && (global == 0 || global == 1)
					if e := ir.Check(m); e != okIf(sized || named) {
						t.Errorf("%v: Check is %d", a, e)
					}
				}
			}
		}
	}
	one := func(list ...api.Array) api.Module {
		m := read(t, "array a[4]; array b[4] small; main f; func f params 0 regs 0 { b0: trap; }")
		m.Funcs[0].Arrays = list
		return m
	}
	first, second, local := api.Array{Kind: api.AyGlobal}, api.Array{Kind: api.AyGlobal, Global: 1}, api.Array{Kind: api.AyLocal, Len: 4}
	expect(t, "two arrays of the module", one(second, local, first, local), api.OK)
	expect(t, "one twice", one(second, local, second), api.ErrArg)
	expect(t, "the first twice", one(first, first), api.ErrArg)
	expect(t, "no array of the module", api.Module{Funcs: []api.IFunc{{Name: "f", Arrays: []api.Array{first}, Blocks: []api.Block{leave()}}}}, api.ErrArg)
}

// P8.1: ends.
func TestEnds(t *testing.T) {
	ok := map[api.Term][2]bool{} // in a function without a result, and in one with a result
	both := [2]bool{true, true}
	for _, to := range []int{1, 2} {
		ok[api.Term{Op: api.TmJump, To: to}] = both
		for _, or := range []int{1, 2} {
			for _, a := range []api.Opd{reg(0), reg(1), num(0), num(-7)} {
				ok[api.Term{Op: api.TmBranch, To: to, Else: or, A: a}] = both
			}
		}
	}
	ok[api.Term{Op: api.TmTrap}] = both
	ok[api.Term{Op: api.TmReturn}] = both // zero is the register 0
	for _, a := range []api.Opd{reg(1), num(0), num(-7)} {
		ok[api.Term{Op: api.TmReturn, A: a}] = [2]bool{1: true}
	}
	wrong := []api.Opd{reg(2), reg(-2), reg(math.MinInt), reg(math.MaxInt), {Reg: 0, Imm: 1}, {Reg: 1, Imm: -1}, {Reg: 2, Imm: 5}}
	blocks := "local[1]; b0: trap; b1: trap; b2: trap; }"
	m := read(t, "main f; func f params 0 regs 2 { "+blocks+" func g params 0 regs 2 result { "+blocks)
	for op := -1; op <= 5; op++ {
		for _, to := range []int{math.MinInt, -1, 0, 1, 2, 3, math.MaxInt} {
			for _, or := range []int{-1, 0, 1, 2, 3} {
				for _, a := range append(wrong, reg(0), reg(1), num(0), num(-7)) {
					x := api.Term{Op: op, A: a, To: to, Else: or}
					for f := range 2 {
						m.Funcs[f].Blocks[1].End = x
						if e := ir.Check(m); e != okIf(ok[x][f]) {
							t.Errorf("function %d, %v: Check is %d", f, x, e)
						}
						m.Funcs[f].Blocks[1].End = api.Term{Op: api.TmTrap}
					}
				}
			}
		}
	}
}

// P8.1: no end leads to the block 0, wherever it is.
func TestFirstBlock(t *testing.T) {
	for i := range 4 {
		for _, end := range []api.Term{{Op: api.TmJump}, {Op: api.TmBranch, A: num(1), Else: 1}, {Op: api.TmBranch, A: num(1), To: 1}} {
			m := body(1, leave(), leave(), leave(), leave())
			m.Funcs[0].Blocks[i].End = end
			expect(t, "an end that leads to the block 0", m, api.ErrArg)
		}
	}
}
