package ir_test

import (
	"math"
	"strings"
	"testing"

	"cupel/api"
	"cupel/ir"
)

// P8.3: the canonical text, which is read as the module.
func TestPrintWhole(t *testing.T) {
	m := read(t, whole)
	if s := text(t, m); s != whole {
		t.Errorf("Print:\n%s", s)
	}
	const bare = "main f;\nfunc f params 0 regs 0 {\n\tb0:\n\t\treturn;\n}\n"
	if s := text(t, read(t, "main f;func f params 0regs 0{b0:return;}#")); s != bare {
		t.Errorf("Print:\n%s", s)
	}
	if s := text(t, body(1, leave(api.Instr{Op: api.IxBin, Kind: api.IbAdd, A: num(2), B: num(3)}, api.Instr{Op: api.IxPrint, To: -1}))); s != "main main;\nfunc main params 0 regs 1 {\n\tb0:\n\t\tr0 = add 2, 3;\n\t\tprint r0;\n\t\treturn;\n}\n" {
		t.Errorf("Print:\n%s", s)
	}
}

// P8.3: lines of instructions.
func TestPrintInstructions(t *testing.T) {
	for want, x := range map[string]api.Instr{
		"r2 = 5":                       {Op: api.IxCopy, To: 2, A: num(5)},
		"r0 = r1":                      {Op: api.IxCopy, A: reg(1)},
		"r0 = -9223372036854775808":    {Op: api.IxCopy, A: num(math.MinInt64)},
		"r0 = 9223372036854775807":     {Op: api.IxCopy, A: num(math.MaxInt64)},
		"r1 = add r0, 0":               {Op: api.IxBin, To: 1, Kind: api.IbAdd, A: reg(0), B: num(0)},
		"r1 = sub -1, r2":              {Op: api.IxBin, To: 1, Kind: api.IbSub, A: num(-1), B: reg(2)},
		"r1 = mul r0, r2":              {Op: api.IxBin, To: 1, Kind: api.IbMul, A: reg(0), B: reg(2)},
		"r1 = div r0, r2":              {Op: api.IxBin, To: 1, Kind: api.IbDiv, A: reg(0), B: reg(2)},
		"r1 = rem r0, r2":              {Op: api.IxBin, To: 1, Kind: api.IbRem, A: reg(0), B: reg(2)},
		"r1 = and r0, r2":              {Op: api.IxBin, To: 1, Kind: api.IbAnd, A: reg(0), B: reg(2)},
		"r1 = or r0, r2":               {Op: api.IxBin, To: 1, Kind: api.IbOr, A: reg(0), B: reg(2)},
		"r1 = xor r0, r2":              {Op: api.IxBin, To: 1, Kind: api.IbXor, A: reg(0), B: reg(2)},
		"r1 = shl r0, r2":              {Op: api.IxBin, To: 1, Kind: api.IbShl, A: reg(0), B: reg(2)},
		"r1 = shr r0, r2":              {Op: api.IxBin, To: 1, Kind: api.IbShr, A: reg(0), B: reg(2)},
		"r1 = eq r0, r2":               {Op: api.IxBin, To: 1, Kind: api.IbEq, A: reg(0), B: reg(2)},
		"r1 = ne r0, r2":               {Op: api.IxBin, To: 1, Kind: api.IbNe, A: reg(0), B: reg(2)},
		"r1 = lt r0, r2":               {Op: api.IxBin, To: 1, Kind: api.IbLt, A: reg(0), B: reg(2)},
		"r1 = le r0, r2":               {Op: api.IxBin, To: 1, Kind: api.IbLe, A: reg(0), B: reg(2)},
		"check r0, 4":                  {Op: api.IxCheck, To: -1, A: reg(0), B: num(4)},
		"r1 = load a1[r2]":             {Op: api.IxLoad, To: 1, Array: 1, A: reg(2)},
		"store a1[-1] = r2":            {Op: api.IxStore, To: -1, Array: 1, A: num(-1), B: reg(2)},
		"r1 = get c1":                  {Op: api.IxGet, To: 1, Cell: 1},
		"put c1 = 0":                   {Op: api.IxPut, To: -1, Cell: 1, A: num(0)},
		"print -7":                     {Op: api.IxPrint, To: -1, A: num(-7)},
		"call e()":                     {Op: api.IxCall, To: -1, Func: 1},
		"call i(0, r1)":                {Op: api.IxCall, To: -1, Func: 4, Args: []api.Opd{num(0), reg(1)}},
		"r2 = call i(r2, r1)":          {Op: api.IxCall, To: 2, Func: 4, Args: []api.Opd{reg(2), reg(1)}},
		"r0 = call g(r1, -2; a2, a0)":  {Op: api.IxCall, To: 0, Func: 2, Args: []api.Opd{reg(1), num(-2)}, Arrays: []int{2, 0}},
		"call h(; a1)":                 {Op: api.IxCall, To: -1, Func: 3, Arrays: []int{1}},
		"call j(; a0, a2)":             {Op: api.IxCall, To: -1, Func: 5, Arrays: []int{0, 2}},
		"call k(r0; a2)":               {Op: api.IxCall, To: -1, Func: 6, Args: []api.Opd{reg(0)}, Arrays: []int{2}},
		"r0 = call g(0, 0; a0, a2)":    {Op: api.IxCall, To: 0, Func: 2, Args: []api.Opd{num(0), num(0)}, Arrays: []int{0, 2}},
		"r0 = phi":                     {Op: api.IxPhi},
		"r2 = phi b0: r1":              {Op: api.IxPhi, To: 2, From: []int{0}, Args: []api.Opd{reg(1)}},
		"r2 = phi b0: 0, b2: r0":       {Op: api.IxPhi, To: 2, From: []int{0, 2}, Args: []api.Opd{num(0), reg(0)}},
		"r2 = phi b0: 0, b1: 1, b2: 2": {Op: api.IxPhi, To: 2, From: []int{0, 1, 2}, Args: []api.Opd{num(0), num(1), num(2)}},
	} {
		m := read(t, "cell c = 0; cell d = 0; array a[4] small; main f; func f params 0 regs 3 { local[2]; global a; local[2]; b0: trap; b1: trap; b2: trap; } func e params 0 regs 0 { b0: trap; } func g params 2 regs 2 result { param[2]; param[2]; b0: trap; } func h params 0 regs 0 { param[4] small; b0: trap; } func i params 2 regs 2 result { b0: trap; } func j params 0 regs 0 { param[2]; param[2]; b0: trap; } func k params 1 regs 1 { param[2]; b0: trap; }")
		f := &m.Funcs[0]
		for _, from := range x.From {
			f.Blocks[from].End = api.Term{Op: api.TmJump, To: 1}
		}
		f.Blocks[1].Code = []api.Instr{x}
		if s := text(t, m); !strings.Contains(s, "\n\tb1:\n\t\t"+want+";\n\t\t") {
			t.Errorf("%s:\n%s", want, s)
		}
	}
}

// P8.3: lines of ends and of heads.
func TestPrintEnds(t *testing.T) {
	const s = `cell x = -9223372036854775808;
cell y = 0;
array x[16];
array y[1] small;
main y;
func x params 8 regs 300 result {
	param[16] small;
	global y;
	local[1];
	global x;
	param[2];
	local[16] small;
	b0:
		branch r299, b2, b1;
	b1:
		branch -1, b1, b1;
	b2:
		jump b3;
	b3:
		return r7;
	b4:
		return 0;
}
func y params 0 regs 0 {
	b0:
		trap;
	b1:
		return;
}
`
	if got := text(t, read(t, strings.Join(strings.Fields(s), " "))); got != s {
		t.Errorf("Print:\n%s", got)
	}
}

// P8.3, R2: errors of Check.
func TestPrintErrors(t *testing.T) {
	for _, c := range []changed{
		{"wrong", func(m *api.Module) { m.Main = 9 }, api.ErrArg},
		{"nothing", func(m *api.Module) { *m = api.Module{} }, api.ErrArg},
		{"long", func(m *api.Module) { m.Cells = make([]api.Cell, 41) }, api.ErrLong},
		{"long and wrong", func(m *api.Module) { m.Main, m.Funcs[1].Regs = 9, 301 }, api.ErrLong},
		{"a register that is none", func(m *api.Module) { m.Funcs[0].Blocks[0].Code[0].To = 4 }, api.ErrArg},
		{"a cycle", func(m *api.Module) {
			m.Funcs[2].Blocks[0].Code = []api.Instr{{Op: api.IxCall, To: -1, Func: 0}}
		}, api.ErrArg},
	} {
		m := read(t, whole)
		c.change(&m)
		if s, e := ir.Print(m); s != "" || e != c.want {
			t.Errorf("%s: Print is %q, %d", c.what, s, e)
		}
	}
}

// P8.3: a canonical text may be longer than a text that is read.
func TestPrintLong(t *testing.T) {
	add := api.Instr{Op: api.IxBin, Kind: api.IbAdd, To: 100, A: num(math.MinInt64), B: num(math.MinInt64)}
	m := api.Module{Funcs: many(20, func(i int) api.IFunc {
		return api.IFunc{Name: nameOf(i), Regs: 101, Blocks: []api.Block{leave(many(400, func(int) api.Instr { return add })...)}}
	})}
	s := text(t, m)
	const line = "\t\tr100 = add -9223372036854775808, -9223372036854775808;\n"
	if len(s) < 20*400*len(line) || strings.Count(s, line) != 20*400 {
		t.Errorf("%d bytes", len(s))
	}
	refuse(t, s, 0, api.ErrLong)
}

// P8.5: the canonical text is read as the module, and what is read has a canonical text that is read as the same.
func TestReadsBack(t *testing.T) {
	r := random(4)
	for range 1500 {
		m := makeModule(r, 6)
		s := text(t, m)
		if len(s) > 60000 {
			continue
		}
		if n := read(t, s); !ir.Same(m, n) || text(t, n) != s {
			t.Fatalf("read back:\n%s", s)
		}
		loose := loosen(r.IntN, s)
		n := read(t, loose)
		if !ir.Same(m, n) || text(t, n) != s || ir.Check(n) != api.OK {
			t.Fatalf("read:\n%s", loose)
		}
	}
}

// loosen puts other blanks and remarks between the lines and the words of a canonical text.
func loosen(draw func(n int) int, s string) string {
	blanks := []string{" ", "\t", "\r\n", "  ", "#\n", " # r0 = 1; }\n", "\n\n"}
	var out strings.Builder
	for _, c := range s {
		switch {
		case c == ' ' || c == '\n' || c == '\t':
			out.WriteString(blanks[draw(len(blanks))])
		case strings.ContainsRune(";,:[](){}=", c) && draw(3) == 0:
			out.WriteString(blanks[draw(len(blanks))] + string(c) + blanks[draw(len(blanks))])
		default:
			out.WriteRune(c)
		}
	}
	return out.String()
}
