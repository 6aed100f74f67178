package ir_test

import (
	"math"
	"strings"
	"testing"

	"cupel/api"
	"cupel/ir"
)

// P8.1: arguments, arrays and results of calls.
func TestCalls(t *testing.T) {
	call := func(m *api.Module) *api.Instr { return &m.Funcs[0].Blocks[0].Code[7] } // r0 = call f(r1, -1; a0)
	two := func(m *api.Module) *api.Instr { return &m.Funcs[0].Blocks[0].Code[9] }  // call p(; a1, a2)
	expectChanged(t, []changed{
		{"no change", func(*api.Module) {}, api.OK},
		{"no use of the result", func(m *api.Module) { call(m).To = -1 }, api.OK},
		{"To -2", func(m *api.Module) { call(m).To = -2 }, api.ErrArg},
		{"To 4", func(m *api.Module) { call(m).To = 4 }, api.ErrArg},
		{"the result of a function without one", func(m *api.Module) { two(m).To = 0 }, api.ErrArg},
		{"a function without a result", func(m *api.Module) { m.Funcs[1].Result, m.Funcs[1].Blocks[0].End.A = false, api.Opd{} }, api.ErrArg},
		{"Func 4", func(m *api.Module) { call(m).Func = 4 }, api.ErrArg},
		{"Func -1", func(m *api.Module) { call(m).Func = -1 }, api.ErrArg},
		{"Func of all", func(m *api.Module) { call(m).Func = math.MaxInt }, api.ErrArg},
		{"less Args", func(m *api.Module) { call(m).Args = call(m).Args[:1] }, api.ErrArg},
		{"more Args", func(m *api.Module) { call(m).Args = append(call(m).Args, num(1)) }, api.ErrArg},
		{"no Args", func(m *api.Module) { call(m).Args = nil }, api.ErrArg},
		{"a wrong one", func(m *api.Module) { call(m).Args[1] = reg(4) }, api.ErrArg},
		{"no Arrays", func(m *api.Module) { call(m).Arrays = nil }, api.ErrArg},
		{"more Arrays", func(m *api.Module) { call(m).Arrays = []int{0, 3} }, api.ErrArg},
		{"another array of that size", func(m *api.Module) { call(m).Arrays = []int{3} }, api.OK},
		{"an array of another length", func(m *api.Module) { m.Funcs[0].Arrays[0].Len = 3 }, api.ErrArg},
		{"a small array", func(m *api.Module) { m.Funcs[0].Arrays[0].Small = true }, api.ErrArg},
		{"a small parameter", func(m *api.Module) { m.Funcs[1].Arrays[0].Small = true }, api.ErrArg},
		{"a longer parameter", func(m *api.Module) { m.Funcs[1].Arrays[0].Len = 3 }, api.ErrArg},
		{"an array of the module that is longer", func(m *api.Module) { m.Arrays[1].Len = 3 }, api.ErrArg},
		{"an array of the module that is small", func(m *api.Module) { m.Arrays[1].Small = true }, api.ErrArg},
		{"an array of the module that is not small", func(m *api.Module) { m.Arrays[0].Small = false }, api.ErrArg},
		{"array -1", func(m *api.Module) { call(m).Arrays[0] = -1 }, api.ErrArg},
		{"array 4", func(m *api.Module) { call(m).Arrays[0] = 4 }, api.ErrArg},
		{"the other order", func(m *api.Module) { two(m).Arrays = []int{2, 1} }, api.ErrArg},
		{"one left out", func(m *api.Module) { two(m).Arrays = []int{1} }, api.ErrArg},
		{"one twice", func(m *api.Module) {
			m.Arrays[0].Len = 3
			m.Funcs[2].Arrays[0].Len = 3
			two(m).Arrays = []int{1, 1}
		}, api.ErrArg},
		{"two of one size", func(m *api.Module) {
			m.Arrays[0].Len = 3
			m.Funcs[2].Arrays[0].Len = 3
			two(m).Arrays = []int{2, 1}
		}, api.OK},
		{"a parameter instead of a local array", func(m *api.Module) { m.Funcs[2].Arrays[1].Kind = api.AyParam }, api.ErrArg},
		{"a local array instead of a parameter", func(m *api.Module) { m.Funcs[2].Arrays[2].Kind = api.AyLocal }, api.ErrArg},
	})
}

// calling is a module of these functions, which do nothing but call: each is given as its name and those that it calls.
func calling(t *testing.T, lines string) (api.Module, string) {
	t.Helper()
	s := "main " + lines[:1] + ";"
	for _, line := range strings.Split(lines, "; ") {
		s += " func " + line[:1] + " params 0 regs 0 { b0: return; b1:" // calls that are never made count as well
		for _, c := range line[1:] {
			s += " call " + string(c) + "();"
		}
		s += " trap; }"
	}
	m, _, _ := ir.Parse(s)
	return m, s
}

// P8.1: calls in a cycle.
func TestCycles(t *testing.T) {
	for lines, want := range map[string]bool{
		"a": true, "aa": false, "ab; b": true, "ab; ba": false, "ab; bb": false, "a; bb": false, "a; bc; cb": false,
		"abcd; bcd; cd; d": true, "abcd; bcd; cd; dd": false, "abcd; bcd; cd; db": false, "ad; b; cb; dc": true, "ad; ba; cb; d": true, "ad; ba; cb; dc": false,
		"abbb; bcc; c": true, "a; ba; cba": true, "abc; bd; cd; d": true, "abc; bd; cd; dc": false, "abc; bd; cd; db": false,
		"ab; bc; cd; de; ef; fg; gh; hi; ij; jk; kl; lm; mn; no; op; pq; qr; rs; st; t": true, "ab; bc; cd; de; ef; fg; gh; hi; ij; jk; kl; lm; mn; no; op; pq; qr; rs; st; ta": false,
		"at; ba; cb; dc; ed; fe; gf; hg; ih; ji; kj; lk; ml; nm; on; po; qp; rq; sr; t": true, "at; ba; cb; dc; ed; fe; gf; hg; ih; ji; kj; lk; ml; nm; on; po; qp; rq; sr; ts": false,
	} {
		m, s := calling(t, lines)
		if _, at, e := ir.Parse(s); at != 0 || e != okIf(want) || want && len(m.Funcs) == 0 {
			t.Errorf("%s: %d at %d", lines, e, at)
		}
	}
	read(t, "main b; func a params 0 regs 0 result { b0: return 1; } func b params 0 regs 1 { b0: r0 = call a(); return; } func c params 0 regs 0 { b0: call b(); return; }") // main may be called
}

// P8.1: an array of the module that is given to what names it.
func TestSharedArrays(t *testing.T) {
	const head = "array x[2]; array y[2]; main m; "
	for s, want := range map[string]bool{
		"func m params 0 regs 0 { global x; b0: call f(; a0); return; } func f params 0 regs 0 { param[2]; b0: return; }":                                                                                                                                         true,
		"func m params 0 regs 0 { global x; b0: call f(; a0); return; } func f params 0 regs 0 { param[2]; global y; b0: return; }":                                                                                                                               true,
		"func m params 0 regs 0 { global x; b0: call f(; a0); return; } func f params 0 regs 0 { param[2]; global x; b0: return; }":                                                                                                                               false,
		"func m params 0 regs 0 { global x; b0: return; b1: call f(; a0); return; } func f params 0 regs 0 { global x; param[2]; b0: return; }":                                                                                                                   false,
		"func m params 0 regs 0 { global x; local[2]; b0: call f(; a1); return; } func f params 0 regs 0 { param[2]; global x; b0: return; }":                                                                                                                     true,
		"func m params 0 regs 0 { global y; global x; b0: call f(; a0); return; } func f params 0 regs 0 { param[2]; global x; b0: return; }":                                                                                                                     true,
		"func m params 0 regs 0 { global y; global x; b0: call f(; a1); return; } func f params 0 regs 0 { param[2]; global x; b0: return; }":                                                                                                                     false,
		"func m params 0 regs 0 { global x; b0: call f(; a0); return; } func f params 0 regs 0 { param[2]; b0: call g(); return; } func g params 0 regs 0 { global x; b0: return; }":                                                                              false,
		"func g params 0 regs 0 { global x; b0: return; } func f params 0 regs 0 { param[2]; b0: call h(); return; } func m params 0 regs 0 { global x; b0: call f(; a0); return; } func h params 0 regs 0 { b0: call g(); return; }":                             false,
		"func g params 0 regs 0 { global y; b0: return; } func f params 0 regs 0 { param[2]; b0: call h(); return; } func m params 0 regs 0 { global x; b0: call f(; a0); return; } func h params 0 regs 0 { b0: call g(); return; }":                             true,
		"func m params 0 regs 0 { global x; b0: call f(; a0); call g(); return; } func f params 0 regs 0 { param[2]; b0: return; } func g params 0 regs 0 { global x; b0: return; }":                                                                              true,
		"func m params 0 regs 0 { global x; b0: call f(; a0); return; } func f params 0 regs 0 { param[2]; b0: call g(; a0); return; } func g params 0 regs 0 { param[2]; global x; b0: return; }":                                                                false,
		"func m params 0 regs 0 { local[2]; b0: call f(; a0); return; } func f params 0 regs 0 { param[2]; b0: call g(; a0); return; } func g params 0 regs 0 { param[2]; global x; b0: return; }":                                                                true,
		"func m params 0 regs 0 { b0: return; } func k params 0 regs 0 { global x; b0: call f(; a0); return; } func f params 0 regs 0 { param[2]; global x; b0: return; }":                                                                                        false,
		"func m params 0 regs 0 { global x; global y; b0: call f(; a0, a1); return; } func f params 0 regs 0 { param[2]; param[2]; b0: return; }":                                                                                                                 true,
		"func m params 0 regs 0 { global x; global y; b0: call f(; a0, a1); return; } func f params 0 regs 0 { param[2]; param[2]; global y; b0: return; }":                                                                                                       false,
		"func m params 0 regs 0 { global x; global y; b0: call f(; a1, a0); return; } func f params 0 regs 0 { param[2]; param[2]; global y; b0: return; }":                                                                                                       false,
		"func m params 0 regs 0 { global x; b0: call f(; a0); call f(; a0); return; } func f params 0 regs 0 { param[2]; b0: call g(; a0); return; } func g params 0 regs 0 { param[2]; b0: return; } func h params 0 regs 0 { global x; b0: call m(); return; }": true,
	} {
		if _, at, e := ir.Parse(head + s); at != 0 || e != okIf(want) {
			t.Errorf("%s: %d at %d", s, e, at)
		}
	}
}

// P8.1: the last array of the module, named by the last function, is given to the first one of a chain of calls.
func TestLastSharedArray(t *testing.T) {
	m := api.Module{Main: 18}
	for i := range 20 {
		m.Arrays = append(m.Arrays, api.GArray{Name: nameOf(i), Len: 1})
		f := api.IFunc{Name: nameOf(i), Blocks: []api.Block{leave(api.Instr{Op: api.IxCall, To: -1, Func: i + 1})}}
		m.Funcs = append(m.Funcs, f)
	}
	m.Funcs[0].Arrays = []api.Array{{Kind: api.AyParam, Len: 1}}
	m.Funcs[17].Blocks[0].Code[0].Func = 19
	m.Funcs[18].Blocks[0].Code[0] = api.Instr{Op: api.IxCall, To: -1, Func: 0, Arrays: []int{1}}
	m.Funcs[18].Arrays = []api.Array{{Kind: api.AyGlobal, Global: 18}, {Kind: api.AyGlobal, Global: 19}}
	m.Funcs[19].Blocks[0].Code = nil
	expect(t, "named by no other one", m, api.OK)
	m.Funcs[19].Arrays = []api.Array{{Kind: api.AyGlobal, Global: 19}}
	expect(t, "named by the last one", m, api.ErrArg)
	m.Funcs[18].Blocks[0].Code[0].Arrays[0] = 0
	expect(t, "another one is given", m, api.OK)
}
