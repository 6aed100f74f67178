package ssa_test

import (
	"math/rand/v2"
	"reflect"
	"slices"
	"testing"

	"cupel/api"
	"cupel/flow"
	"cupel/ir"
	"cupel/ssa"
)

func read(t *testing.T, text string) api.Module {
	t.Helper()
	m, at, e := ir.Parse(text)
	if e != api.OK {
		t.Fatalf("Parse(%q): error %d at %d", text, e, at)
	}
	return m
}

func text(m api.Module) string {
	s, _ := ir.Print(m)
	return s
}

// random draws numbers, always the same ones.
func random(seed uint64) *rand.Rand { return rand.New(rand.NewPCG(seed, 12)) }

// all is the limit with which everything is done; it may have faults.
func all(faults ...int) api.Limit { return api.Limit{Most: -1, Faults: faults} }

// pass is one of the functions that change modules, and its number.
type pass struct {
	name   string
	number int
	run    func(m api.Module, k int, x api.Limit) (api.Module, []api.Applied, api.Errno)
}

var (
	into = pass{"Into", api.PsInto, ssa.Into}
	out  = pass{"Out", api.PsOut, ssa.Out}
	tidy = pass{"Tidy", api.PsTidy, ssa.Tidy}
)

func passes() []pass { return []pass{into, out, tidy} }

// of is a module with a function of this head and body, which is the function 0.
func of(t *testing.T, head, body string) api.Module {
	t.Helper()
	return read(t, around(head, body))
}

func around(head, body string) string {
	return "cell c0 = 5; cell c1 = 6; main m; func f " + head + " { " + body + " } func m params 0 regs 0 { b0: return; } func g params 2 regs 2 result { param[2]; b0: return r1; }"
}

// make returns what a pass makes of a module; it has to report one application.
func (p pass) make(t *testing.T, m api.Module, k int, x api.Limit) api.Module {
	t.Helper()
	made, list, e := p.run(m, k, x)
	if want := []api.Applied{{Pass: p.number, Func: k, Index: -1}}; e != api.OK || !slices.Equal(list, want) {
		t.Fatalf("%s\n%s of %d: applications %v, error %d", text(m), p.name, k, list, e)
	}
	if e := ir.Check(made); e != api.OK {
		t.Fatalf("%s\n%s of %d is not valid (%d):\n%+v", text(m), p.name, k, e, made)
	}
	return made
}

// fail wants an error of a pass, and nothing besides.
func (p pass) fail(t *testing.T, m api.Module, k int, x api.Limit, want api.Errno) {
	t.Helper()
	made, list, e := p.run(m, k, x)
	if e != want || len(list) > 0 || !reflect.ValueOf(made).IsZero() {
		t.Errorf("%.2000s\n%s of %d, %v: applications %v, error %d, want %d", text(m), p.name, k, x, list, e, want)
	}
}

// stay wants a pass to return a module as it is.
func (p pass) stay(t *testing.T, m api.Module, k int, x api.Limit) {
	t.Helper()
	made, list, e := p.run(m, k, x)
	if e != api.OK || len(list) > 0 || !ir.Same(made, m) {
		t.Errorf("%.2000s\n%s of %d, %v: applications %v, error %d\n%.2000s", text(m), p.name, k, x, list, e, text(made))
	}
}

// row is a function before a pass and after it: the part of the head that stays the same, the numbers of registers, and the bodies.
type row struct {
	what              string
	params            string
	regs, before      string
	newRegs, expected string
}

// expect wants a pass to make what rows say.
func (p pass) expect(t *testing.T, x api.Limit, rows []row) {
	t.Helper()
	for _, r := range rows {
		head := func(regs string) string {
			params, result := r.params, ""
			if n := len(params) - 1; params[n] == '=' {
				params, result = params[:n], " result"
			}
			return "params " + params + " regs " + regs + result
		}
		decls := "local[2]; local[2]; "
		made := p.make(t, of(t, head(r.regs), decls+r.before), 0, x)
		if want := of(t, head(r.newRegs), decls+r.expected); !ir.Same(made, want) {
			t.Errorf("%s: %s of %s\nis %s", r.what, p.name, r.before, text(made))
		}
	}
}

func check(t *testing.T, m api.Module, k int, want api.Errno) {
	t.Helper()
	if e := ssa.Check(m, k); e != want {
		t.Errorf("%s\nCheck of %d: error %d, want %d", text(m), k, e, want)
	}
}

func graph(t *testing.T, m api.Module, k int) api.Graph {
	t.Helper()
	g, e := flow.Make(m, k)
	if e != api.OK {
		t.Fatalf("%s\nMake of %d: error %d", text(m), k, e)
	}
	return g
}

// hasPhi reports whether a function has a phi.
func hasPhi(f api.IFunc) bool {
	return slices.ContainsFunc(f.Blocks, func(b api.Block) bool {
		return slices.ContainsFunc(b.Code, func(x api.Instr) bool { return x.Op == api.IxPhi })
	})
}
