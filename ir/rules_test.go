package ir_test

import (
	"reflect"
	"sync"
	"testing"

	"cupel/api"
	"cupel/ir"
)

// P1, R3: arguments are not changed.
func TestArgumentsStay(t *testing.T) {
	r := random(6)
	for i := range 300 {
		m := makeModule(r, 5)
		if i%2 == 1 {
			change(r, &m)
		}
		old := clone(m)
		ir.Check(m)
		ir.Print(m)
		ir.Same(m, old)
		for _, f := range m.Funcs {
			for _, b := range f.Blocks {
				for _, x := range b.Code {
					ir.Uses(x)
				}
			}
		}
		if !reflect.DeepEqual(m, old) {
			t.Fatalf("the module\n%+v\nbecame\n%+v", old, m)
		}
	}
}

// P1, R3: lists of a module that was read share no memory, also behind their ends.
func TestListsApart(t *testing.T) {
	r := random(7)
	texts := []string{whole, "main f; func f params 0 regs 1 { b0: jump b1; b1: r0 = phi b0: 1; r0 = phi b0: 2; branch 1, b2, b2; b2: trap; }"}
	for range 50 {
		texts = append(texts, text(t, makeModule(r, 5)))
	}
	for _, s := range texts {
		m := read(t, s)
		spoiled := map[uintptr]bool{}
		for _, v := range lists(reflect.ValueOf(&m)) {
			size := v.Type().Elem().Size()
			for i := range v.Cap() {
				at := v.Pointer() + uintptr(i)*size
				if spoiled[at] {
					t.Fatalf("two lists share memory:\n%s", s)
				}
				spoiled[at] = true
			}
		}
	}
}

// P1, R3: a module that was read has nothing to do with another one of the same text, and results of Uses are new.
func TestResultsApart(t *testing.T) {
	first, second := read(t, whole), read(t, whole)
	for _, v := range lists(reflect.ValueOf(&first)) {
		for i := range v.Len() {
			v.Index(i).SetZero()
		}
	}
	if text(t, second) != whole || text(t, read(t, whole)) != whole {
		t.Error("modules share memory")
	}
	x := api.Instr{Op: api.IxCall, To: 1, Args: []api.Opd{reg(3), reg(4)}}
	a, _ := ir.Uses(x)
	b, _ := ir.Uses(x)
	a[0], a[1] = 70, 80
	a = append(a, 5)
	if b[0] != 3 || b[1] != 4 || x.Args[0] != reg(3) || x.Args[1] != reg(4) {
		t.Error("Uses")
	}
	expectUses(t, x, []int{3, 4}, 1)
}

// P1, R4: empty lists mean the same as nil.
func TestEmptyLists(t *testing.T) {
	r := random(8)
	for range 300 {
		m := makeModule(r, 4)
		if r.IntN(2) == 0 {
			change(r, &m)
		}
		none, empty := clone(m), clone(m)
		for i, v := range lists(reflect.ValueOf(&none)) {
			if v.Len() == 0 {
				v.SetZero()
				w := lists(reflect.ValueOf(&empty))[i]
				w.Set(reflect.MakeSlice(w.Type(), 0, 3))
			}
		}
		s, e := ir.Print(none)
		u, f := ir.Print(empty)
		if !ir.Same(none, empty) || ir.Check(none) != ir.Check(empty) || s != u || e != f {
			t.Fatalf("empty lists: %+v", m)
		}
	}
	for op := range 12 {
		x := api.Instr{Op: op, To: -1, A: num(1), B: num(1)}
		expectUses(t, x, nil, -1)
		x.Args, x.Arrays, x.From = []api.Opd{}, []int{}, []int{}
		expectUses(t, x, nil, -1)
	}
}

// P1, R6: results depend on the arguments alone, also when many ask at once.
func TestAtOnce(t *testing.T) {
	m := read(t, whole)
	var wait sync.WaitGroup
	for range 8 {
		wait.Go(func() {
			for range 20 {
				if s, e := ir.Print(m); s != whole || e != api.OK {
					t.Errorf("Print: %d", e)
				}
				if n, _, e := ir.Parse(whole); e != api.OK || !ir.Same(m, n) {
					t.Errorf("Parse: %d", e)
				}
				if _, at, e := ir.Parse("main f; func"); at != 12 || e != api.ErrForm {
					t.Errorf("Parse: %d at %d", e, at)
				}
			}
		})
	}
	wait.Wait()
}

// P1, R1: all functions return for modules that were changed a lot.
func TestAllReturn(t *testing.T) {
	r := random(9)
	for range 1000 {
		m := makeModule(r, 4)
		for range 1 + r.IntN(30) {
			change(r, &m)
		}
		e := ir.Check(m)
		if s, f := ir.Print(m); e != f || (s == "") != (e != api.OK) {
			t.Fatalf("Print: %d, Check: %d", f, e)
		}
		if want, wrong := modelCheck(m); e != want {
			t.Fatalf("Check: %d, want %d: %v\n%+v", e, want, wrong, m)
		}
		if !ir.Same(m, clone(m)) {
			t.Fatal("Same")
		}
		for _, f := range m.Funcs {
			for _, b := range f.Blocks {
				for _, x := range b.Code {
					if _, to := ir.Uses(x); to != -1 && to != x.To {
						t.Fatalf("Uses: %d", to)
					}
				}
			}
		}
	}
}
