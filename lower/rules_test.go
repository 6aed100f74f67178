package lower_test

import (
	"reflect"
	"sync"
	"testing"

	"cupel/api"
	"cupel/ir"
	"cupel/lower"
)

// P1 with the rules of memory and state; those of errors and values are tested with the promises.

// lists returns all lists of what a pointer leads to, each of which can be set.
func lists(v reflect.Value) []reflect.Value {
	var all []reflect.Value
	switch v.Kind() {
	case reflect.Pointer:
		return lists(v.Elem())
	case reflect.Struct:
		for i := range v.NumField() {
			all = append(all, lists(v.Field(i))...)
		}
	case reflect.Slice:
		all = append(all, v)
		for i := range v.Len() {
			all = append(all, lists(v.Index(i))...)
		}
	}
	return all
}

// apart reports whether no two lists share memory, also behind their ends.
func apart(all []reflect.Value) bool {
	seen := map[uintptr]bool{}
	for _, v := range all {
		size := v.Type().Elem().Size()
		for i := range v.Cap() {
			at := v.Pointer() + uintptr(i)*size
			if seen[at] {
				return false
			}
			seen[at] = true
		}
	}
	return true
}

// P1, R3: arguments are not changed, also where their memory goes on behind their lists.
func TestArgumentsStay(t *testing.T) {
	programs(t, 200, func(p api.Program) {
		old := read(t, text(p))
		faults := []int{1, 16, 18, 24, 99}[:4]
		lower.Lower(p, with(faults...))
		if !reflect.DeepEqual(p, old) || !reflect.DeepEqual(faults[:5], []int{1, 16, 18, 24, 99}) {
			t.Fatalf("%s\nbecame\n%s", text(old), text(p))
		}
	})
}

// P1, R3: lists of a module share no memory, neither with each other, nor with the program, nor with those of another call.
func TestListsApart(t *testing.T) {
	sources := []string{everything, "func main() { }", "func f(a: int[1], b: int[1], x: int, y: int) { } func main() { let a: int[1]; let b: int[1]; f(a, b, 1, 2); f(b, a, 3, 4); return; return; }"}
	for seed := range uint64(100) {
		sources = append(sources, makeProgram(seed))
	}
	for _, s := range sources {
		p, x := read(t, s), with(16, 17)
		m, e := lower.Lower(p, x)
		if e != api.OK {
			continue
		}
		n, _ := lower.Lower(p, x)
		all := append(lists(reflect.ValueOf(&m)), lists(reflect.ValueOf(&n))...)
		all = append(all, lists(reflect.ValueOf(&p))...)
		if !apart(append(all, reflect.ValueOf(x.Faults))) {
			t.Fatalf("%s\nlists share memory", s)
		}
		want, _ := ir.Print(m)
		for _, v := range append(lists(reflect.ValueOf(&p)), lists(reflect.ValueOf(&n))...) {
			for i := range v.Len() {
				v.Index(i).SetZero()
			}
		}
		if got, _ := ir.Print(m); got != want {
			t.Fatalf("%s\nis\n%s\nthen\n%s", s, want, got)
		}
	}
}

// P1, R4: empty lists mean the same as nil.
func TestEmptyLists(t *testing.T) {
	programs(t, 200, func(p api.Program) {
		q := read(t, text(p))
		for _, v := range lists(reflect.ValueOf(&q)) {
			if v.Len() == 0 {
				v.Set(reflect.MakeSlice(v.Type(), 0, 3))
			}
		}
		m, e := lower.Lower(p, api.Limit{})
		n, f := lower.Lower(q, api.Limit{Faults: []int{}})
		if !ir.Same(m, n) || e != f {
			t.Fatalf("%s\nempty lists: error %d, %d\n%+v\nwant\n%+v", text(p), e, f, n, m)
		}
	})
	none := api.Program{Globals: []api.Global{}, Funcs: []api.Func{{Name: "main", Params: []api.Param{}, Body: []api.Stmt{}}}}
	if got := lowered(t, none); got != lowered(t, read(t, "func main() { }")) {
		t.Errorf("empty lists: %s", got)
	}
}

// P1, R6: nodes of a program that share their memory are different ones.
func TestSharedNodes(t *testing.T) {
	p := read(t, "func f(n: int) { let a: int[1]; a[0] = n; } func g(n: small) { } func main() { }")
	p.Funcs[1].Body = p.Funcs[0].Body[:1]
	p.Funcs[2].Body = p.Funcs[0].Body[:1]
	want := "func f(n: int) { let a: int[1]; a[0] = n; } func g(n: small) { let a: int[1]; } func main() { let a: int[1]; }"
	if got := lowered(t, p); got != lowered(t, read(t, want)) {
		t.Errorf("%s", got)
	}
}

// P1, R6: results depend on the arguments alone, also when many are made at once.
func TestAtOnce(t *testing.T) {
	p := read(t, everything)
	want := lowered(t, p)
	fault := lowered(t, p, api.FtLower2)
	var wait sync.WaitGroup
	for range 8 {
		wait.Go(func() {
			for range 30 {
				m, e := lower.Lower(p, with())
				n, f := lower.Lower(p, with(api.FtLower2))
				s, _ := ir.Print(m)
				u, _ := ir.Print(n)
				if s != want || u != fault || e != api.OK || f != api.OK {
					t.Errorf("errors %d, %d\n%s\n%s", e, f, s, u)
				}
			}
		})
	}
	wait.Wait()
}
