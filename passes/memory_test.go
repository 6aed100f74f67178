package passes

import (
	"math"
	"reflect"
	"slices"
	"sync"
	"testing"

	"cupel/api"
	"cupel/ir"
	"cupel/samples"
)

// P1 with the rules of memory and state, and with them P13.4, P14.4, P15.4, P16.4, P17.4 and P18.4.

// limits are different ones; each call has new lists.
func (p subject) limits() []api.Limit {
	last := append(slices.Clone(p.Faults[1:]), api.MaxFaults)
	return []api.Limit{samples.All(), {}, {Most: 1, Faults: slices.Clone(p.Faults)}, {Most: 0, Faults: last}, {Most: 3}, {Most: math.MaxInt, Faults: []int{}}}
}

// eachExample runs a test for each pass and modules of all kinds.
func eachExample(t *testing.T, test func(t *testing.T, p subject, m api.Module)) {
	each(t, func(t *testing.T, p subject) {
		look := func(m api.Module) { test(t, p, m) }
		look(samples.Read(t, p.many()))
		p.functions(t, 60, 20, look)
		p.programs(10, look)
	})
}

// visit calls look with all values that a pointer leads to, each one before its parts.
func visit(v reflect.Value, look func(v reflect.Value)) {
	look(v)
	switch v.Kind() {
	case reflect.Pointer:
		visit(v.Elem(), look)
	case reflect.Struct:
		for i := range v.NumField() {
			visit(v.Field(i), look)
		}
	case reflect.Slice:
		for i := range v.Len() {
			visit(v.Index(i), look)
		}
	}
}

// lists returns all lists of what pointers lead to.
func lists(pointers ...any) []reflect.Value {
	var all []reflect.Value
	for _, p := range pointers {
		visit(reflect.ValueOf(p), func(v reflect.Value) {
			if v.Kind() == reflect.Slice {
				all = append(all, v)
			}
		})
	}
	return all
}

// stretch makes each list of what a pointer leads to the beginning of a longer one.
func stretch(pointer any) {
	visit(reflect.ValueOf(pointer), func(v reflect.Value) {
		if v.Kind() == reflect.Slice {
			n := v.Len()
			long := reflect.MakeSlice(v.Type(), n+2, n+3)
			reflect.Copy(long, v)
			v.Set(long.Slice(0, n))
		}
	})
}

// hidden counts what stands behind the ends of lists and is not zero.
func hidden(pointer any) int {
	count := 0
	for _, v := range lists(pointer) {
		for i := v.Len(); i < v.Cap(); i++ {
			if !v.Slice(0, v.Cap()).Index(i).IsZero() {
				count++
			}
		}
	}
	return count
}

// R3: arguments are not changed, also where their memory goes on behind their lists.
func TestArgumentsStay(t *testing.T) {
	eachExample(t, func(t *testing.T, p subject, m api.Module) {
		old := samples.Read(t, samples.Text(m))
		stretch(&m)
		for k := range m.Funcs {
			for i, x := range p.limits() {
				stretch(&x)
				p.ask(m, k, x)
				if !slices.Equal(x.Faults, p.limits()[i].Faults) || hidden(&x) > 0 {
					t.Fatalf("the limit became %v", x)
				}
			}
		}
		if !ir.Same(m, old) || hidden(&m) > 0 {
			t.Fatalf("%s\nbecame\n%s", samples.Text(old), samples.Text(m))
		}
	})
}

// R3: lists of results share no memory, neither with each other, nor with the arguments, nor with those of another call.
func TestListsApart(t *testing.T) {
	eachExample(t, func(t *testing.T, p subject, m api.Module) {
		for k := range m.Funcs {
			for _, x := range p.limits() {
				a, b := p.ask(m, k, x), p.ask(m, k, x)
				seen := map[uintptr]bool{}
				for _, v := range lists(&m, &x, &a.m, &a.list, &b.m, &b.list) {
					for i := range v.Cap() {
						at := v.Pointer() + uintptr(i)*v.Type().Elem().Size()
						if seen[at] {
							t.Fatalf("%s\nRun of %d, %v: lists share memory", samples.Text(m), k, x)
						}
						seen[at] = true
					}
				}
			}
		}
	})
}

// R3: arguments are not kept.
func TestArgumentsNotKept(t *testing.T) {
	each(t, func(t *testing.T, p subject) {
		for k := range 4 {
			for i, x := range p.limits() {
				m, other := samples.Read(t, p.many()), samples.Read(t, p.many())
				got, want := p.ask(m, k, x), p.ask(other, k, p.limits()[i])
				for _, v := range lists(&m, &x) {
					for j := range v.Len() {
						v.Index(j).SetZero()
					}
				}
				if !same(got, want) || !same(p.ask(other, k, p.limits()[i]), want) {
					t.Errorf("%d, %d: the result has changed", k, i)
				}
			}
		}
	})
}

// R4: empty lists mean the same as nil.
func TestEmptyLists(t *testing.T) {
	eachExample(t, func(t *testing.T, p subject, m api.Module) {
		empty := samples.Read(t, samples.Text(m))
		for _, v := range lists(&empty) {
			if v.Len() == 0 {
				v.Set(reflect.MakeSlice(v.Type(), 0, 3))
			}
		}
		for k := range m.Funcs {
			if !same(p.ask(m, k, samples.All()), p.ask(empty, k, api.Limit{Most: -1, Faults: []int{}})) {
				t.Fatalf("%s\n%d: with empty lists it is different", samples.Text(m), k)
			}
		}
	})
}

// R6: results depend on the arguments alone, also when many are made at once.
func TestAtOnce(t *testing.T) {
	each(t, func(t *testing.T, p subject) {
		m, x := samples.Read(t, p.many()), samples.All(p.Faults...)
		var want []answer
		for k := range m.Funcs {
			want = append(want, p.ask(m, k, x))
		}
		var wait sync.WaitGroup
		for range 8 {
			wait.Go(func() {
				for i := range 80 {
					k := i % len(want)
					if got := p.ask(m, k, x); !same(got, want[k]) {
						t.Errorf("%d: %v, want %v", k, got, want[k])
					}
				}
			})
		}
		wait.Wait()
	})
}

// Nothing of the module changes but the code of one function, which has as many registers and arrays, or more where the pass may make them.
func TestOnlyOneFunction(t *testing.T) {
	eachExample(t, func(t *testing.T, p subject, m api.Module) {
		for k := range m.Funcs {
			if made, _, e := p.Run(m, k, samples.All()); e == api.OK {
				made.Funcs[k].Blocks = m.Funcs[k].Blocks
				if p.grows() {
					f, before := &made.Funcs[k], m.Funcs[k]
					f.Regs, f.Arrays = min(f.Regs, before.Regs), f.Arrays[:min(len(f.Arrays), len(before.Arrays))]
				}
				if !ir.Same(made, m) {
					t.Fatalf("%s\nRun of %d has changed more", samples.Text(m), k)
				}
			}
		}
	})
}
