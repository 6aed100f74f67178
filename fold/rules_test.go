package fold_test

import (
	"math"
	"reflect"
	"slices"
	"sync"
	"testing"

	"cupel/api"
	"cupel/fold"
	"cupel/ir"
	"cupel/ssa"
)

// P1 and P13.4, with the rules of memory and state, and the errors of P13.1.

// many has cells, arrays of each kind, calls, all instructions, constants, branches by them, blocks that are not reached, and loops; the function m is not in static single assignment form.
const many = `cell c = 5; array x[2] small; main m;
func m params 0 regs 3 { local[2]; b0: r0 = get c0; r0 = add r0, 1; r1 = call g(r0, 2; a0); r1 = call h(1; a0); call f(); return; }
func g params 2 regs 5 result { param[2]; b0: r2 = 1; store a0[r2] = r2; r3 = load a0[r0]; check r2, 7; branch r2, b1, b2; b1: jump b3; b2: jump b3; b3: r4 = phi b1: r2, b2: r1; return r4; }
func f params 0 regs 7 { global x; b0: r0 = 3; r1 = div r0, 0; put c0 = r0; print r0; jump b1; b1: r2 = phi b0: 1, b2: r4, b5: r6; r3 = phi b0: r1, b2: r2, b5: 4; r4 = or r2, 1; branch r4, b2, b3; b2: branch r3, b1, b4; b3: jump b4; b4: return; b5: r6 = r0; branch 1, b1, b2; }
func h params 1 regs 5 result { param[2]; b0: r1 = 2; r2 = call g(r1, r0; a0); branch r0, b1, b1; b1: r3 = phi b0: r1; r4 = lt r3, r3; return r4; }`

// answer is what Run returns.
type answer struct {
	m    api.Module
	list []api.Applied
	e    api.Errno
}

func ask(m api.Module, k int, x api.Limit) answer {
	made, list, e := fold.Run(m, k, x)
	return answer{made, list, e}
}

func same(a, b answer) bool {
	return ir.Same(a.m, b.m) && slices.Equal(a.list, b.list) && a.e == b.e
}

// limits are different ones; each call has new lists.
func limits() []api.Limit {
	return []api.Limit{all(), {}, {Most: 1, Faults: []int{api.FtEqualLess, api.FtFirstOnly}}, {Most: 0, Faults: []int{api.FtFirstOnly, api.MaxFaults}}, {Most: 3}, {Most: math.MaxInt, Faults: []int{}}}
}

// examples calls look with modules of all kinds.
func examples(t *testing.T, look func(m api.Module)) {
	t.Helper()
	look(read(t, many))
	modules(t, 60, 20, look)
	generated(t, 10, look)
}

// visit calls look with all values that a pointer leads to, each one before its parts.
func visit(v reflect.Value, look func(v reflect.Value)) {
	look(v)
	switch v.Kind() {
	case reflect.Pointer:
		visit(v.Elem(), look)
	case reflect.Struct:
		for i := range v.NumField() {
			visit(v.Field(i), look)
		}
	case reflect.Slice:
		for i := range v.Len() {
			visit(v.Index(i), look)
		}
	}
}

// lists returns all lists of what pointers lead to.
func lists(pointers ...any) []reflect.Value {
	var all []reflect.Value
	for _, p := range pointers {
		visit(reflect.ValueOf(p), func(v reflect.Value) {
			if v.Kind() == reflect.Slice {
				all = append(all, v)
			}
		})
	}
	return all
}

// stretch makes each list of what a pointer leads to the beginning of a longer one.
func stretch(pointer any) {
	visit(reflect.ValueOf(pointer), func(v reflect.Value) {
		if v.Kind() == reflect.Slice {
			n := v.Len()
			long := reflect.MakeSlice(v.Type(), n+2, n+3)
			reflect.Copy(long, v)
			v.Set(long.Slice(0, n))
		}
	})
}

// hidden counts what stands behind the ends of lists and is not zero.
func hidden(pointer any) int {
	count := 0
	for _, v := range lists(pointer) {
		for i := v.Len(); i < v.Cap(); i++ {
			if !v.Slice(0, v.Cap()).Index(i).IsZero() {
				count++
			}
		}
	}
	return count
}

// P13.4, R3: arguments are not changed, also where their memory goes on behind their lists.
func TestArgumentsStay(t *testing.T) {
	examples(t, func(m api.Module) {
		old := read(t, text(m))
		stretch(&m)
		for k := range m.Funcs {
			for i, x := range limits() {
				stretch(&x)
				ask(m, k, x)
				if !slices.Equal(x.Faults, limits()[i].Faults) || hidden(&x) > 0 {
					t.Fatalf("the limit became %v", x)
				}
			}
		}
		if !ir.Same(m, old) || hidden(&m) > 0 {
			t.Fatalf("%s\nbecame\n%s", text(old), text(m))
		}
	})
}

// P13.4, R3: lists of results share no memory, neither with each other, nor with the arguments, nor with those of another call.
func TestListsApart(t *testing.T) {
	examples(t, func(m api.Module) {
		for k := range m.Funcs {
			for _, x := range limits() {
				a, b := ask(m, k, x), ask(m, k, x)
				seen := map[uintptr]bool{}
				for _, v := range lists(&m, &x, &a.m, &a.list, &b.m, &b.list) {
					for i := range v.Cap() {
						at := v.Pointer() + uintptr(i)*v.Type().Elem().Size()
						if seen[at] {
							t.Fatalf("%s\nRun of %d, %v: lists share memory", text(m), k, x)
						}
						seen[at] = true
					}
				}
			}
		}
	})
}

// P13.4, R3: arguments are not kept.
func TestArgumentsNotKept(t *testing.T) {
	for k := range 4 {
		for i, x := range limits() {
			m := read(t, many)
			got, want := ask(m, k, x), ask(read(t, many), k, limits()[i])
			for _, v := range lists(&m, &x) {
				for j := range v.Len() {
					v.Index(j).SetZero()
				}
			}
			if !same(got, want) || !same(ask(read(t, many), k, limits()[i]), want) {
				t.Errorf("%d, %d: the result has changed", k, i)
			}
		}
	}
}

// P1, R4: empty lists mean the same as nil.
func TestEmptyLists(t *testing.T) {
	examples(t, func(m api.Module) {
		empty := read(t, text(m))
		for _, v := range lists(&empty) {
			if v.Len() == 0 {
				v.Set(reflect.MakeSlice(v.Type(), 0, 3))
			}
		}
		for k := range m.Funcs {
			if !same(ask(m, k, all()), ask(empty, k, api.Limit{Most: -1, Faults: []int{}})) {
				t.Fatalf("%s\n%d: with empty lists it is different", text(m), k)
			}
		}
	})
}

// P1, R6: results depend on the arguments alone, also when many are made at once.
func TestAtOnce(t *testing.T) {
	m, x := read(t, many), all(api.FtEqualLess)
	var want []answer
	for k := range m.Funcs {
		want = append(want, ask(m, k, x))
	}
	var wait sync.WaitGroup
	for range 8 {
		wait.Go(func() {
			for i := range 80 {
				k := i % len(want)
				if got := ask(m, k, x); !same(got, want[k]) {
					t.Errorf("%d: %v, want %v", k, got, want[k])
				}
			}
		})
	}
	wait.Wait()
}

func wrongLimits() []api.Limit {
	list := []api.Limit{{Most: -2}, {Most: math.MinInt}, {Most: -2, Faults: []int{1}}}
	for _, faults := range [][]int{{0}, {-1}, {25}, {math.MinInt}, {math.MaxInt}, {1, 1}, {2, 1}, {0, 1}, {1, 2, 25}, {3, 4, 4}, {4, 3}, {24, 24}, make([]int, 30)} {
		list = append(list, api.Limit{Most: -1, Faults: faults}, api.Limit{Faults: faults})
	}
	return list
}

// P13.1: limits that are right, or not.
func TestLimits(t *testing.T) {
	m := read(t, many)
	for k := -1; k <= len(m.Funcs); k++ {
		for _, x := range wrongLimits() {
			fail(t, m, k, x, api.ErrArg)
		}
	}
	var faults []int
	for fault := range api.MaxFaults + 1 {
		for _, most := range []int{-1, 0, 1, 2, math.MaxInt} {
			for k := 1; k < len(m.Funcs); k++ {
				expectModel(t, m, k, api.Limit{Most: most, Faults: faults})
			}
		}
		if made, list := folded(t, m, 1, api.Limit{Faults: faults}); !ir.Same(made, m) || len(list) > 0 {
			t.Errorf("Most 0: %v, %s", list, text(made))
		}
		faults = append(faults, fault+1)
	}
}

// P13.1: the error of ir.Check comes first, then that of the arguments, then that of the form, whatever Most is.
func TestOrderOfErrors(t *testing.T) {
	both := append(limits(), wrongLimits()...)
	wrong := []struct {
		change func(m *api.Module)
		want   api.Errno
	}{
		{func(m *api.Module) { m.Main = 9 }, api.ErrArg},
		{func(m *api.Module) { m.Funcs = nil }, api.ErrArg},
		{func(m *api.Module) { m.Funcs[3].Regs = 301 }, api.ErrLong},
		{func(m *api.Module) { m.Funcs[1].Name = "m" }, api.ErrArg},
		{func(m *api.Module) { m.Funcs[2].Blocks[1].Code[0].From[1] = 3 }, api.ErrArg},
		{func(m *api.Module) { m.Cells = make([]api.Cell, 41) }, api.ErrLong},
	}
	for _, c := range wrong {
		m := read(t, many)
		c.change(&m)
		for k := -1; k < 5; k++ {
			for _, x := range both {
				fail(t, m, k, x, c.want)
			}
		}
	}
	m := read(t, many)
	for _, x := range both {
		for _, k := range []int{-1, 4, math.MinInt, math.MaxInt} {
			fail(t, m, k, x, api.ErrArg)
		}
	}
	for _, x := range limits() {
		fail(t, m, 0, x, api.ErrDown)
	}
	fail(t, api.Module{}, 0, all(), api.ErrArg)
}

// P13.1: functions that are not in static single assignment form.
func TestForm(t *testing.T) {
	for _, body := range []string{
		"b0: r1 = 1; r1 = 1; return;",
		"b0: r0 = 1; return;",
		"b0: print r1; r1 = 2; return;",
		"b0: branch r0, b1, b2; b1: r1 = 1; jump b2; b2: print r1; return;",
		"b0: jump b1; b1: r1 = phi b0: r1; return;",
		"b0: return; b1: r1 = 1; r1 = 2; return;",
	} {
		for _, x := range limits() {
			fail(t, of(t, "1 regs 2", body), 0, x, api.ErrDown)
		}
	}
	for _, body := range []string{"b0: return; b1: print r1; return;", "b0: jump b1; b1: r1 = phi b0: 3, b2: r1; return; b2: jump b1;"} {
		folded(t, of(t, "1 regs 2", body), 0, all())
	}
}

// P13.1: nothing of the module changes but operands, ends and phis of one function.
func TestOnlyOneFunction(t *testing.T) {
	examples(t, func(m api.Module) {
		for k := range m.Funcs {
			if made, _, e := fold.Run(m, k, all()); e == api.OK {
				made.Funcs[k].Blocks = m.Funcs[k].Blocks
				if !ir.Same(made, m) {
					t.Fatalf("%s\nRun of %d has changed more", text(m), k)
				}
			}
		}
	})
}

// P13.4, R1: Run returns for modules in which anything was changed, valid or not, and any other arguments.
func TestAllReturn(t *testing.T) {
	dice := random(6)
	values := []int64{math.MinInt, -2, -1, 0, 1, 2, 3, 4, 5, 9, 14, 15, 16, 300, 301, math.MaxInt}
	value := func() int64 { return values[dice.IntN(len(values))] }
	seen := map[api.Errno]int{}
	for seed := range uint64(2500) {
		m := makeModule(t, seed, 1+int(seed%14))
		var leaves []reflect.Value
		visit(reflect.ValueOf(&m), func(v reflect.Value) {
			if v.CanInt() || v.Kind() == reflect.Bool {
				leaves = append(leaves, v)
			}
		})
		if v := leaves[dice.IntN(len(leaves))]; v.Kind() == reflect.Bool {
			v.SetBool(!v.Bool())
		} else {
			v.SetInt(value())
		}
		k, x := 0, limits()[dice.IntN(len(limits()))]
		if dice.IntN(4) == 0 {
			k = int(value())
		}
		e := ir.Check(m)
		if e == api.OK && (k < 0 || k >= len(m.Funcs)) {
			e = api.ErrArg
		}
		if e == api.OK {
			e = ssa.Check(m, k)
		}
		if seen[e]++; e == api.OK {
			expectModel(t, m, k, x)
		} else {
			fail(t, m, k, x, e)
		}
	}
	if seen[api.OK] < 200 || seen[api.ErrArg] < 1000 || seen[api.ErrDown] < 50 || seen[api.ErrLong] < 1 {
		t.Errorf("errors: %v", seen)
	}
}
