package ssa_test

import (
	"fmt"
	"math"
	"reflect"
	"slices"
	"sync"
	"testing"

	"cupel/api"
	"cupel/ir"
	"cupel/ssa"
)

// P1 and P12.7, with the rules of memory and state; those of errors and values are tested with the promises, too.

const (
	least    = math.MinInt
	greatest = math.MaxInt
)

// many has cells, arrays of each kind, calls, all instructions, blocks that are not reached, and loops; the functions f and h have phis, of which h is in static single assignment form.
const many = `cell c = 5; array x[2] small; main m;
func m params 0 regs 3 { local[2]; global x; b0: r0 = get c0; store a0[0] = r0; jump b1;
	b1: r2 = add r1, 1; branch r2, b2, b3; b2: r0 = call g(r1, r0; a0); print r0; check r2, 7; branch r0, b1, b2; b3: r2 = r0; branch r2, b1, b4; b4: jump b6; b5: put c0 = r1; jump b4; b6: return; }
func g params 2 regs 3 result { param[2]; b0: store a0[r0] = 300; r2 = load a0[r0]; branch r2, b1, b2; b1: jump b3; b2: jump b3; b3: return r1; }
func f params 0 regs 3 { global x; b0: jump b1; b1: r1 = phi b0: 0, b2: r2, b5: r0; r0 = phi b0: r0, b2: r1, b5: 4; r2 = add r1, 1; branch r2, b2, b3; b2: branch r0, b1, b2; b3: jump b4; b4: return; b5: branch 1, b1, b2; }
func h params 1 regs 4 { local[2]; b0: jump b1; b1: r1 = phi b0: 1, b1: r2, b3: 5; r2 = phi b0: r0, b1: r1, b3: r3; r3 = call g(r1, r2; a0); branch r3, b1, b2; b2: return; b3: jump b1; }`

// answer is what a function returns.
type answer struct {
	m    api.Module
	list []api.Applied
	e    api.Errno
}

// ask returns what all functions say of a function.
func ask(m api.Module, k int, x api.Limit) []answer {
	answers := []answer{{e: ssa.Check(m, k)}}
	for _, p := range passes() {
		made, list, e := p.run(m, k, x)
		answers = append(answers, answer{made, list, e})
	}
	return answers
}

func same(a, b []answer) bool {
	return slices.EqualFunc(a, b, func(a, b answer) bool { return ir.Same(a.m, b.m) && slices.Equal(a.list, b.list) && a.e == b.e })
}

// limits are different ones; each call has new lists.
func limits() []api.Limit {
	return []api.Limit{all(), {}, {Most: 1, Faults: []int{api.FtUndefined, api.FtOneByOne}}, {Most: 0, Faults: []int{api.FtOneByOne, api.MaxFaults}}, {Most: greatest, Faults: []int{}}}
}

// lists returns all lists of what a pointer leads to.
func lists(v reflect.Value) []reflect.Value {
	var all []reflect.Value
	switch v.Kind() {
	case reflect.Pointer:
		return lists(v.Elem())
	case reflect.Struct:
		for i := range v.NumField() {
			all = append(all, lists(v.Field(i))...)
		}
	case reflect.Slice:
		all = append(all, v)
		for i := range v.Len() {
			all = append(all, lists(v.Index(i))...)
		}
	}
	return all
}

// apart reports whether no two lists share memory, also behind their ends.
func apart(all []reflect.Value) bool {
	seen := map[uintptr]bool{}
	for _, v := range all {
		size := v.Type().Elem().Size()
		for i := range v.Cap() {
			at := v.Pointer() + uintptr(i)*size
			if seen[at] {
				return false
			}
			seen[at] = true
		}
	}
	return true
}

// stretch makes each list of what a pointer leads to the beginning of a longer one.
func stretch(v reflect.Value) {
	switch v.Kind() {
	case reflect.Pointer:
		stretch(v.Elem())
	case reflect.Struct:
		for i := range v.NumField() {
			stretch(v.Field(i))
		}
	case reflect.Slice:
		n := v.Len()
		long := reflect.MakeSlice(v.Type(), n+2, n+3)
		reflect.Copy(long, v)
		v.Set(long.Slice(0, n))
		for i := range n {
			stretch(v.Index(i))
		}
	}
}

// hidden counts what stands behind the ends of lists and is not zero, where lists can grow there.
func hidden(v reflect.Value) int {
	count := 0
	switch v.Kind() {
	case reflect.Struct:
		for i := range v.NumField() {
			count += hidden(v.Field(i))
		}
	case reflect.Slice:
		for i := range v.Cap() {
			x := v.Slice(0, v.Cap()).Index(i)
			if i < v.Len() {
				count += hidden(x)
			} else if !x.IsZero() {
				count++
			}
		}
	}
	return count
}

// examples calls look with modules of all kinds.
func examples(t *testing.T, look func(m api.Module)) {
	t.Helper()
	look(read(t, many))
	modules(t, 40, true, look)
	modules(t, 40, false, look)
	inForm(t, 40, look)
}

// P12.7, R3: arguments are not changed, also where their memory goes on behind their lists.
func TestArgumentsStay(t *testing.T) {
	examples(t, func(m api.Module) {
		old := read(t, text(m))
		stretch(reflect.ValueOf(&m))
		for k := range m.Funcs {
			for i, x := range limits() {
				stretch(reflect.ValueOf(&x))
				ask(m, k, x)
				if !slices.Equal(x.Faults, limits()[i].Faults) || hidden(reflect.ValueOf(x)) > 0 {
					t.Fatalf("the limit became %v", x)
				}
			}
		}
		if !ir.Same(m, old) || hidden(reflect.ValueOf(m)) > 0 {
			t.Fatalf("%s\nbecame\n%s", text(old), text(m))
		}
	})
}

// P12.7, R3: lists of results share no memory, neither with each other, nor with the arguments, nor with those of another call.
func TestListsApart(t *testing.T) {
	examples(t, func(m api.Module) {
		for k := range m.Funcs {
			for _, x := range limits() {
				all := append(lists(reflect.ValueOf(&m)), lists(reflect.ValueOf(&x))...)
				for range 2 {
					for _, a := range ask(m, k, x) {
						all = append(all, lists(reflect.ValueOf(&a.m))...)
						all = append(all, lists(reflect.ValueOf(&a.list))...)
					}
				}
				if !apart(all) {
					t.Fatalf("%s\n%d, %v: lists share memory", text(m), k, x)
				}
			}
		}
	})
}

// P12.7, R3: arguments are not kept.
func TestArgumentsNotKept(t *testing.T) {
	for k := range 4 {
		for i, x := range limits() {
			m := read(t, many)
			got, want := ask(m, k, x), ask(read(t, many), k, limits()[i])
			for _, v := range append(lists(reflect.ValueOf(&m)), lists(reflect.ValueOf(&x))...) {
				for j := range v.Len() {
					v.Index(j).SetZero()
				}
			}
			if !same(got, want) || !same(ask(read(t, many), k, limits()[i]), want) {
				t.Errorf("%d, %d: the results have changed", k, i)
			}
		}
	}
}

// P1, R4: empty lists mean the same as nil.
func TestEmptyLists(t *testing.T) {
	examples(t, func(m api.Module) {
		empty := read(t, text(m))
		for _, v := range lists(reflect.ValueOf(&empty)) {
			if v.Len() == 0 {
				v.Set(reflect.MakeSlice(v.Type(), 0, 3))
			}
		}
		for k := range m.Funcs {
			if !same(ask(m, k, all()), ask(empty, k, api.Limit{Most: -1, Faults: []int{}})) {
				t.Fatalf("%s\n%d: with empty lists it is different", text(m), k)
			}
		}
	})
}

// P1, R6: results depend on the arguments alone, also when many are made at once.
func TestAtOnce(t *testing.T) {
	m, x := read(t, many), all(api.FtOneByOne)
	var want [][]answer
	for k := range m.Funcs {
		want = append(want, ask(m, k, x))
	}
	var wait sync.WaitGroup
	for range 8 {
		wait.Go(func() {
			for i := range 40 {
				k := i % len(want)
				if got := ask(m, k, x); !same(got, want[k]) {
					t.Errorf("%d: %v, want %v", k, got, want[k])
				}
			}
		})
	}
	wait.Wait()
}

// expectErrors wants one error of all functions, and nothing besides.
func expectErrors(t *testing.T, m api.Module, k int, want api.Errno) {
	t.Helper()
	for _, x := range append(limits(), wrongLimits()...) {
		if e := ssa.Check(m, k); e != want {
			t.Errorf("%v\nCheck of %d: error %d, want %d", m, k, e, want)
		}
		for _, p := range passes() {
			p.fail(t, m, k, x, want)
		}
	}
}

func wrongLimits() []api.Limit {
	list := []api.Limit{{Most: -2}, {Most: least}, {Most: -2, Faults: []int{1}}}
	for _, faults := range [][]int{{0}, {-1}, {25}, {least}, {greatest}, {1, 1}, {2, 1}, {0, 1}, {1, 2, 25}, {1, 3, 2}, {5, 6, 7, 7}, {24, 24}, {24, 1}, make([]int, 30)} {
		list = append(list, api.Limit{Most: -1, Faults: faults}, api.Limit{Faults: faults})
	}
	return list
}

// P12.2 to P12.4: limits that are right, or not.
func TestLimits(t *testing.T) {
	m := read(t, many)
	for k := -1; k <= len(m.Funcs); k++ {
		for _, x := range wrongLimits() {
			for _, p := range passes() {
				p.fail(t, m, k, x, api.ErrArg)
			}
		}
	}
	var faults []int
	for fault := range api.MaxFaults + 1 {
		for _, x := range []api.Limit{all(faults...), {Most: 1, Faults: faults}, {Most: greatest, Faults: faults}} {
			into.make(t, m, 0, x)
			out.make(t, m, 3, x)
			tidy.make(t, m, 2, x)
		}
		into.stay(t, m, 0, api.Limit{Faults: faults})
		out.stay(t, m, 3, api.Limit{Faults: faults})
		tidy.stay(t, m, 2, api.Limit{Faults: faults})
		faults = append(faults, fault+1)
	}
}

// P12.1 to P12.4: the error of ir.Check comes first, then that of the arguments, then the others.
func TestOrderOfErrors(t *testing.T) {
	m := read(t, many)
	for _, k := range []int{-1, 4, least, greatest} {
		expectErrors(t, m, k, api.ErrArg)
	}
	wrong := []struct {
		change func(m *api.Module)
		want   api.Errno
	}{
		{func(m *api.Module) { m.Main = 9 }, api.ErrArg},
		{func(m *api.Module) { m.Funcs = nil }, api.ErrArg},
		{func(m *api.Module) { m.Funcs[3].Regs = 301 }, api.ErrLong},
		{func(m *api.Module) { m.Funcs[1].Name = "m" }, api.ErrArg},
		{func(m *api.Module) { m.Funcs[2].Blocks[1].Code[0].From[1] = 3 }, api.ErrArg},
		{func(m *api.Module) { m.Cells = make([]api.Cell, 41) }, api.ErrLong},
	}
	for _, c := range wrong {
		m := read(t, many)
		c.change(&m)
		for _, k := range []int{-1, 0, 1, 2, 3, 4} {
			expectErrors(t, m, k, c.want)
		}
	}
	into.fail(t, m, 2, all(), api.ErrDown)
	into.fail(t, m, 3, all(), api.ErrDown)
	out.fail(t, m, 2, all(), api.ErrDown)
	for _, x := range wrongLimits() {
		into.fail(t, m, 2, x, api.ErrArg)
		out.fail(t, m, 2, x, api.ErrArg)
	}
	// No pass but Tidy has an application if there is nothing to do, too.
	tidied := tidy.make(t, m, 1, all())
	if again := tidy.make(t, tidied, 1, all()); !ir.Same(again, tidied) {
		t.Errorf("%s", text(again))
	}
}

// P12.2 to P12.4: nothing of the module changes but one function.
func TestOnlyOneFunction(t *testing.T) {
	examples(t, func(m api.Module) {
		for k := range m.Funcs {
			for i, a := range ask(m, k, all())[1:] {
				if a.e != api.OK {
					continue
				}
				f := &a.m.Funcs[k]
				f.Blocks, f.Regs = m.Funcs[k].Blocks, m.Funcs[k].Regs
				if !ir.Same(a.m, m) {
					t.Fatalf("%s\n%s of %d has changed more", text(m), passes()[i].name, k)
				}
			}
		}
	})
}

// leaves returns all numbers and truth values of what a pointer leads to, each of which can be set.
func leaves(v reflect.Value) []reflect.Value {
	var all []reflect.Value
	switch v.Kind() {
	case reflect.Pointer:
		return leaves(v.Elem())
	case reflect.Struct:
		for i := range v.NumField() {
			all = append(all, leaves(v.Field(i))...)
		}
	case reflect.Slice:
		for i := range v.Len() {
			all = append(all, leaves(v.Index(i))...)
		}
	case reflect.Int, reflect.Int64, reflect.Bool:
		all = append(all, v)
	}
	return all
}

// P12.7, R1: all functions return for modules in which anything was changed, valid or not, and any other arguments.
func TestAllReturn(t *testing.T) {
	dice := random(6)
	values := []int64{least, -2, -1, 0, 1, 2, 3, 4, 5, 9, 14, 15, 16, 300, 301, greatest}
	valid := 0
	for seed := range uint64(1200) {
		m := read(t, makeModule(seed, seed%2 == 0))
		all := leaves(reflect.ValueOf(&m))
		if v := all[dice.IntN(len(all))]; v.Kind() == reflect.Bool {
			v.SetBool(!v.Bool())
		} else {
			v.SetInt(values[dice.IntN(len(values))])
		}
		k := int(values[dice.IntN(len(values))])
		if dice.IntN(4) > 0 {
			k = dice.IntN(len(m.Funcs))
		}
		switch e := ir.Check(m); {
		case e != api.OK:
			expectErrors(t, m, k, e)
		case k < 0 || k >= len(m.Funcs):
			expectErrors(t, m, k, api.ErrArg)
		default:
			valid++
			expectModel(t, m, k)
		}
	}
	if valid < 120 || valid > 1080 {
		t.Errorf("%d modules are valid", valid)
	}
}

// expectModel wants of all functions what the model says of a function of a valid module.
func expectModel(t *testing.T, m api.Module, k int) {
	t.Helper()
	want := []answer{{e: modelCheck(m, k)}, {e: api.ErrDown}, {e: api.ErrDown}, {m: modelTidy(m, k)}}
	if !hasPhi(m.Funcs[k]) {
		want[1] = modelAnswer(modelInto(m, k, 0))
	}
	if want[0].e == api.OK {
		want[2] = modelAnswer(modelOut(m, k, false))
	}
	for i, p := range passes() {
		if want[i+1].e == api.OK {
			want[i+1].list = []api.Applied{{Pass: p.number, Func: k, Index: -1}}
		}
	}
	if got := ask(m, k, all()); !same(got, want) {
		t.Fatalf("%s\n%d: %s\nwant %s", text(m), k, fmt.Sprint(got), fmt.Sprint(want))
	}
}

func modelAnswer(m api.Module, long bool) answer {
	if long {
		return answer{e: api.ErrLong}
	}
	return answer{m: m}
}
