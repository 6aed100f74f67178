// Package samples makes modules for the tests of what works on modules, has what these tests ask of passes, and makes, reads and writes virtual code for others.
package samples

import (
	"strconv"
	"strings"

	"cupel/api"
	"cupel/gen"
	"cupel/ir"
	"cupel/lower"
	"cupel/ssa"
)

// T is a test that is told what is wrong: a *testing.T.
type T interface {
	Helper()
	Errorf(format string, args ...any)
	Fatalf(format string, args ...any)
}

// Dice draws numbers, always the same ones for a seed.
type Dice struct{ state uint64 }

// NewDice returns the dice for a seed.
func NewDice(seed uint64) *Dice { return &Dice{seed} }

// IntN draws a number from 0 to n - 1.
func (d *Dice) IntN(n int) int {
	d.state = gen.Next(d.state)
	return gen.Draw(d.state, n)
}

// All is the limit with which everything is done; it may have faults.
func All(faults ...int) api.Limit { return api.Limit{Most: -1, Faults: faults} }

// Read returns the module of a text.
func Read(t T, text string) api.Module {
	t.Helper()
	m, at, e := ir.Parse(text)
	if e != api.OK {
		t.Fatalf("Parse(%q): error %d at %d", text, e, at)
	}
	return m
}

// Text returns the canonical text of a module, if it is valid.
func Text(m api.Module) string {
	s, _ := ir.Print(m)
	return s
}

// Of is a module with a function of this head ("2 regs 3 result": 2 parameters) and body, which is the function 0. It has the arrays a0[2], a1[3], which is small, and those of the module, a2[2] and a3[2], which is small. Main, the function 1, calls it with various arguments and prints its results, and at the end what the cells and the arrays of the module hold. It may call the function 2, g with two parameters, an array like a0 and a result.
func Of(t T, head, body string) api.Module {
	t.Helper()
	var main strings.Builder
	for i, args := range [][]string{{"0", "0"}, {"1", "5"}, {"-1", "1"}, {"7", "-3"}} {
		call := "call f(" + strings.Join(args[:head[0]-'0'], ", ") + "); print "
		if strings.Contains(head, "result") {
			r := "r" + strconv.Itoa(i)
			main.WriteString(r + " = " + call + r + "; ")
		} else {
			main.WriteString(call + "100; ")
		}
	}
	return Read(t, `cell c0 = 5; cell c1 = 6; array x[2]; array y[2] small; main m;
func f params `+head+" { local[2]; local[3] small; global x; global y; "+body+` }
func m params 0 regs 8 { global x; global y; b0: `+main.String()+`r4 = get c0; print r4; r5 = get c1; print r5; r6 = load a0[1]; print r6; r7 = load a1[0]; print r7; return; }
func g params 2 regs 4 result { param[2]; global x; b0: print r0; r2 = load a0[r0]; put c1 = r2; r3 = get c0; put c0 = r1; store a0[1] = r3; store a1[r1] = r0; return r3; }`)
}

// Functions calls look with the modules of many functions, of up to so many blocks.
func Functions(t T, count, blocks int, look func(m api.Module)) {
	t.Helper()
	for seed := range uint64(count) {
		look(Function(t, seed, 1+int(seed)%blocks))
	}
}

// Lowered calls look with the modules of programs that are generated.
func Lowered(count int, look func(m api.Module)) {
	for seed := range uint64(count) {
		p, e := gen.Generate(api.Plan{Seed: seed, Funcs: int(seed % 5), Stmts: 5 + int(seed%30), Depth: int(seed % 4)})
		if e != api.OK {
			continue
		}
		if m, e := lower.Lower(p, api.Limit{}); e == api.OK {
			look(m)
		}
	}
}

// Programs calls look with the modules of programs that are generated, all of whose functions are brought into static single assignment form.
func Programs(count int, look func(m api.Module)) {
	Lowered(count, func(m api.Module) {
		e := api.OK
		for k := 0; e == api.OK && k < len(m.Funcs); k++ {
			m, _, e = ssa.Into(m, k, All())
		}
		if e == api.OK {
			look(m)
		}
	})
}
