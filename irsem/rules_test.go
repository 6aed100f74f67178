package irsem_test

import (
	"reflect"
	"slices"
	"sync"
	"testing"

	"cupel/api"
	"cupel/ir"
	"cupel/irsem"
)

// P1 with the rules of memory and state; those of errors and values are tested with the promises.

// many has cells, arrays of each kind, calls in each other, phis and all instructions in it.
const many = `cell c = 5; array x[2] small; array y[2]; main m;
func m params 0 regs 3 { local[2]; global y; b0: r0 = get c0; store a0[0] = r0; jump b1;
	b1: r1 = phi b0: 0, b2: r2; r0 = phi b0: r0, b2: r1; r2 = add r1, 1; branch r2, b2, b3;
	b2: r0 = call g(r1, r0; a0, a1); print r0; check r2, 7; jump b1;
	b3: return; }
func g params 2 regs 3 result { param[2]; global x; param[2]; local[3]; b0: store a1[r0] = 300; r2 = load a1[r0]; put c0 = r2; call h(r2; a2); store a0[r1] = r2; r2 = load a2[1]; return r2; }
func h params 1 regs 2 { param[2]; b0: r1 = mul r0, 3; r1 = load a0[r1]; r1 = add r1, r0; store a0[1] = r1; r1 = div 100, r1; print r1; return; }`

// stretched is a copy of a module in which each list is the beginning of a longer one.
func stretched(v reflect.Value) {
	switch v.Kind() {
	case reflect.Pointer:
		stretched(v.Elem())
	case reflect.Struct:
		for i := range v.NumField() {
			stretched(v.Field(i))
		}
	case reflect.Slice:
		n := v.Len()
		long := reflect.MakeSlice(v.Type(), n+2, n+3)
		reflect.Copy(long, v)
		v.Set(long.Slice(0, n))
		for i := range n {
			stretched(v.Index(i))
		}
	}
}

// hidden counts what stands behind the ends of lists and is not zero, where lists can grow there.
func hidden(v reflect.Value) int {
	count := 0
	switch v.Kind() {
	case reflect.Struct:
		for i := range v.NumField() {
			count += hidden(v.Field(i))
		}
	case reflect.Slice:
		for i := range v.Cap() {
			x := v.Slice(0, v.Cap()).Index(i)
			if i < v.Len() {
				count += hidden(x)
			} else if !x.IsZero() {
				count++
			}
		}
	}
	return count
}

// P1, R3: arguments are not changed, also where their memory goes on behind their lists.
func TestArgumentsStay(t *testing.T) {
	look := func(m api.Module) {
		old := read(t, text(m))
		stretched(reflect.ValueOf(&m))
		run(t, m, 1000)
		trace(t, m, 1000, 2000)
		if !ir.Same(m, old) || hidden(reflect.ValueOf(m)) > 0 {
			t.Fatalf("%s\nbecame\n%s", text(old), text(m))
		}
	}
	look(read(t, many))
	modules(t, 300, look)
	a, b := behaves(api.EnSteps, 0, 1, 2, 3), behaves(api.EnDone, 0, 1, 2, 3)
	a.Out = a.Out[:2]
	irsem.Agree(a, b)
	irsem.Agree(b, a)
	if !slices.Equal(a.Out[:3], []int64{1, 2, 3}) || !slices.Equal(b.Out, []int64{1, 2, 3}) {
		t.Error("Agree changes its arguments")
	}
}

// P1, R3: arguments are not kept, and results are new memory.
func TestResultsAreNew(t *testing.T) {
	m := read(t, many)
	b, list := run(t, m, 1000), trace(t, m, 1000, 100)
	if len(b.Out) < 3 || len(list) < 10 {
		t.Fatalf("%s, %s", show(b), visits(list))
	}
	out, entered := slices.Clone(b.Out), slices.Clone(list)
	again, others := run(t, m, 1000), trace(t, m, 1000, 100)
	clear(again.Out[:cap(again.Out)])
	clear(others[:cap(others)])
	clear(m.Funcs)
	clear(m.Cells)
	if !slices.Equal(b.Out, out) || !slices.Equal(list, entered) {
		t.Errorf("%s, %s", show(b), visits(list))
	}
}

// P1, R4: empty lists mean the same as nil.
func TestEmptyLists(t *testing.T) {
	modules(t, 300, func(m api.Module) {
		empty := read(t, text(m))
		stretched(reflect.ValueOf(&empty))
		expectSame(t, m, empty, itself(len(m.Funcs)))
	})
	none := api.Module{Funcs: []api.IFunc{{Name: "f", Blocks: []api.Block{{End: api.Term{Op: api.TmReturn}}}}}}
	empty := api.Module{Cells: []api.Cell{}, Arrays: []api.GArray{}, Funcs: []api.IFunc{{Name: "f", Arrays: []api.Array{}, Blocks: []api.Block{{Code: []api.Instr{}, End: api.Term{Op: api.TmReturn}}}}}}
	expectSame(t, none, empty, itself(1))
	if got := show(run(t, none, 1)); got != "[] done" {
		t.Errorf("%s", got)
	}
}

// P1, R6: a run depends on its arguments alone: each one begins anew, also when many are made at once.
func TestAtOnce(t *testing.T) {
	m := read(t, many)
	want, entered := modelRun(m, 1000)
	var wait sync.WaitGroup
	for range 8 {
		wait.Go(func() {
			for range 50 {
				b, e := irsem.Run(m, 1000)
				list, f := irsem.Trace(m, 1000, 2000)
				if !equal(b, want) || !slices.Equal(list, entered) || e != api.OK || f != api.OK || !irsem.Agree(b, want) {
					t.Errorf("%s, %d, %s, %d", show(b), e, visits(list), f)
				}
			}
		})
	}
	wait.Wait()
}

// leaves returns all numbers and truth values of what a pointer leads to, each of which can be set.
func leaves(v reflect.Value) []reflect.Value {
	var all []reflect.Value
	switch v.Kind() {
	case reflect.Pointer:
		return leaves(v.Elem())
	case reflect.Struct:
		for i := range v.NumField() {
			all = append(all, leaves(v.Field(i))...)
		}
	case reflect.Slice:
		for i := range v.Len() {
			all = append(all, leaves(v.Index(i))...)
		}
	case reflect.Int, reflect.Int64, reflect.Bool:
		all = append(all, v)
	}
	return all
}

// P1, R1: Run and Trace return for modules in which anything was changed, valid or not; valid ones do what the model says.
func TestAllReturn(t *testing.T) {
	dice := random(6)
	values := []int64{least, -2, -1, 0, 1, 2, 3, 4, 5, 9, 14, 15, 16, 300, 301, greatest}
	valid := 0
	for seed := range uint64(3000) {
		m := read(t, makeModule(seed))
		all := leaves(reflect.ValueOf(&m))
		for range 1 + dice.IntN(2) {
			if v := all[dice.IntN(len(all))]; v.Kind() == reflect.Bool {
				v.SetBool(!v.Bool())
			} else {
				v.SetInt(values[dice.IntN(len(values))])
			}
		}
		if e := ir.Check(m); e != api.OK {
			expectError(t, m, 300, e)
			continue
		}
		valid++
		want, entered := modelRun(m, 300)
		if b := run(t, m, 300); !equal(b, want) || !slices.Equal(trace(t, m, 300, 2000), entered) {
			t.Fatalf("%s\ndoes %s, want %s", text(m), show(b), show(want))
		}
	}
	if valid < 300 || valid > 2700 {
		t.Errorf("%d modules are valid", valid)
	}
}
