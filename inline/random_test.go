package inline_test

import (
	"maps"
	"strings"
	"testing"

	"cupel/api"
	"cupel/parts"
	"cupel/samples"
	"cupel/ssa"
)

// P18.1: functions of all kinds, with all numbers of applications.
func TestMade(t *testing.T) {
	each := func(look func(m api.Module)) { samples.Callers(250, look) }
	pass.ExpectModelIn(t, each).ExpectEnough(t, 1, 4000, 150)
}

// mixed calls look with modules, some functions of which have phis.
func mixed(count int, look func(m api.Module)) {
	turn := 0
	samples.Callers(count, func(m api.Module) {
		for k := range m.Funcs {
			if turn++; turn%3 == 0 {
				if made, _, e := ssa.Into(m, k, samples.All()); e == api.OK {
					m = made
				}
			}
		}
		look(m)
	})
}

// P18.1: modules some of whose functions have phis.
func TestMixed(t *testing.T) {
	down, made := 0, 0
	mixed(200, func(m api.Module) {
		for k, f := range m.Funcs {
			if parts.HasPhi(f) {
				pass.ExpectError(t, m, k, samples.All(), api.ErrDown)
				down++
			} else {
				_, list := pass.ExpectModel(t, m, k, samples.All())
				made += len(list)
			}
		}
	})
	if down < 80 || made < 400 {
		t.Errorf("%d functions with phis, %d applications", down, made)
	}
}

// P18.1: the functions of programs.
func TestPrograms(t *testing.T) {
	if count := pass.ExpectModelOfAll(t, func(look func(m api.Module)) { samples.Lowered(300, look) }); count < 500 {
		t.Errorf("%d applications", count)
	}
}

// called returns the functions that one calls, directly or through others.
func called(m api.Module, k int) map[int]bool {
	all := map[int]bool{}
	for _, block := range m.Funcs[k].Blocks {
		for _, x := range block.Code {
			if x.Op == api.IxCall {
				all[x.Func] = true
				maps.Copy(all, called(m, x.Func))
			}
		}
	}
	return all
}

// named returns the arrays of the module that functions name.
func named(m api.Module, funcs map[int]bool) map[int]bool {
	all := map[int]bool{}
	for k := range funcs {
		for _, a := range m.Funcs[k].Arrays {
			if a.Kind == api.AyGlobal {
				all[a.Global] = true
			}
		}
	}
	return all
}

// P18.3: what is called, and named, was called and named before; calls that stay are of functions that are long or have phis, or there is no room; a second Run makes nothing.
func TestProperties(t *testing.T) {
	fewer, stay := 0, 0
	mixed(1500, func(m api.Module) {
		for k, f := range m.Funcs {
			if parts.HasPhi(f) {
				continue
			}
			made, _ := pass.Made(t, m, k, samples.All())
			before, after := called(m, k), called(made, k)
			if maps.Copy(after, before); !maps.Equal(after, before) {
				t.Fatalf("%s\nRun of %d: other functions are called in\n%s", samples.Text(m), k, samples.Text(made))
			}
			if len(called(made, k)) < len(before) {
				fewer++
			}
			before[k] = true
			if !maps.Equal(named(m, before), named(made, before)) {
				t.Fatalf("%s\nRun of %d: other arrays are named in\n%s", samples.Text(m), k, samples.Text(made))
			}
			if again, list := pass.Made(t, made, k, samples.All()); len(list) > 0 {
				t.Fatalf("%s\nRun of %d again: %v\n%s", samples.Text(made), k, list, samples.Text(again))
			}
			stay += len(called(made, k))
		}
	})
	if fewer < 1000 || stay < 1000 {
		t.Errorf("%d functions call fewer others, %d calls stay", fewer, stay)
	}
}

// P18.3: as many calls of long functions as before, or more, where these are called in what is replaced.
func TestLongStay(t *testing.T) {
	count := 0
	samples.Callers(600, func(m api.Module) {
		made, _ := pass.Made(t, m, 0, samples.All())
		for k, g := range m.Funcs {
			if parts.Instructions(g) > api.MaxInline {
				before, after := calls(m, k), calls(made, k)
				if after < before {
					t.Fatalf("%s\n%d calls of %d are left in\n%s", samples.Text(m), after, k, samples.Text(made))
				}
				count += after
			}
		}
	})
	if count < 300 {
		t.Errorf("%d calls", count)
	}
}

// calls returns how many calls of a function the function 0 has.
func calls(m api.Module, k int) int {
	count := 0
	for _, block := range m.Funcs[0].Blocks {
		for _, x := range block.Code {
			if x.Op == api.IxCall && x.Func == k {
				count++
			}
		}
	}
	return count
}

// P18.2: 100 times as many steps, and 100 more, are enough for functions of 12 registers and three arrays of 16 elements.
func TestEnoughSteps(t *testing.T) {
	g := "func g params 1 regs 12 result { " + strings.Repeat("local[16]; ", 3) + "b0: return r0; } "
	h := strings.Replace(strings.Replace(g, "func g", "func h", 1), "b0: ", "b0: r1 = call g(r0); ", 1)
	for _, callee := range []string{"g", "h"} {
		m := module(t, "2 { b0: jump b1; b1: r0 = call "+callee+"(1); r1 = add r1, r0; print r1; r0 = lt r1, 5; branch r0, b1, b2; b2: return;", g+h)
		for most := range 4 {
			made, _ := pass.Made(t, m, 0, api.Limit{Most: most})
			pass.ExpectKept(t, m, made)
		}
	}
}
