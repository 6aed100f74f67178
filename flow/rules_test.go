package flow_test

import (
	"math"
	"reflect"
	"sync"
	"testing"

	"cupel/api"
	"cupel/flow"
	"cupel/ir"
)

// P1 and P11.7, with the rules of memory and state; those of errors and values are tested with the promises.

const (
	least    = math.MinInt
	greatest = math.MaxInt
)

// many has cells, arrays of each kind, calls, phis and all instructions in it, blocks that are not reached, and loops in each other.
const many = `cell c = 5; array x[2] small; main m;
func m params 0 regs 3 { local[2]; global x; b0: r0 = get c0; store a0[0] = r0; jump b1;
	b1: r1 = phi b0: 0, b2: r2, b3: r0; r0 = phi b0: r0, b2: r1, b3: 4; r2 = add r1, 1; branch r2, b2, b3;
	b2: r0 = call g(r1, r0; a0); print r0; check r2, 7; branch r0, b1, b2; b3: r2 = r0; branch r2, b1, b4; b4: return; b5: put c0 = r1; jump b4; }
func g params 2 regs 3 result { param[2]; b0: store a0[r0] = 300; r2 = load a0[r0]; branch r2, b1, b2; b1: jump b3; b2: jump b3; b3: return r1; }`

// answers is all that the functions say of a function of a module.
type answers struct {
	graph   api.Graph
	loops   []api.Loop
	in, out [][]int
	above   [][]int // for each block, which ones dominate it
}

func ask(t *testing.T, m api.Module, k int) *answers {
	t.Helper()
	a := &answers{graph: graph(t, m, k), loops: loops(t, m, k)}
	a.in, a.out = live(t, m, k)
	n := len(m.Funcs[k].Blocks)
	for b := range n {
		a.above = append(a.above, choose(n, func(c int) bool { return dominates(t, m, k, c, b) }))
	}
	return a
}

func sameAnswers(a, b *answers) bool {
	return sameGraphs(a.graph, b.graph) && sameLoops(a.loops, b.loops) && sameLists(a.in, b.in) && sameLists(a.out, b.out) && sameLists(a.above, b.above)
}

// lists returns all lists of what a pointer leads to.
func lists(v reflect.Value) []reflect.Value {
	var all []reflect.Value
	switch v.Kind() {
	case reflect.Pointer:
		return lists(v.Elem())
	case reflect.Struct:
		for i := range v.NumField() {
			all = append(all, lists(v.Field(i))...)
		}
	case reflect.Slice:
		all = append(all, v)
		for i := range v.Len() {
			all = append(all, lists(v.Index(i))...)
		}
	}
	return all
}

// apart reports whether no two lists share memory, also behind their ends.
func apart(all []reflect.Value) bool {
	seen := map[uintptr]bool{}
	for _, v := range all {
		size := v.Type().Elem().Size()
		for i := range v.Cap() {
			at := v.Pointer() + uintptr(i)*size
			if seen[at] {
				return false
			}
			seen[at] = true
		}
	}
	return true
}

// stretch makes each list of a module the beginning of a longer one.
func stretch(v reflect.Value) {
	switch v.Kind() {
	case reflect.Pointer:
		stretch(v.Elem())
	case reflect.Struct:
		for i := range v.NumField() {
			stretch(v.Field(i))
		}
	case reflect.Slice:
		n := v.Len()
		long := reflect.MakeSlice(v.Type(), n+2, n+3)
		reflect.Copy(long, v)
		v.Set(long.Slice(0, n))
		for i := range n {
			stretch(v.Index(i))
		}
	}
}

// hidden counts what stands behind the ends of lists and is not zero, where lists can grow there.
func hidden(v reflect.Value) int {
	count := 0
	switch v.Kind() {
	case reflect.Struct:
		for i := range v.NumField() {
			count += hidden(v.Field(i))
		}
	case reflect.Slice:
		for i := range v.Cap() {
			x := v.Slice(0, v.Cap()).Index(i)
			if i < v.Len() {
				count += hidden(x)
			} else if !x.IsZero() {
				count++
			}
		}
	}
	return count
}

// P11.7, R3: arguments are not changed, also where their memory goes on behind their lists.
func TestArgumentsStay(t *testing.T) {
	look := func(m api.Module) {
		old := read(t, text(m))
		stretch(reflect.ValueOf(&m))
		for k := range m.Funcs {
			ask(t, m, k)
		}
		if !ir.Same(m, old) || hidden(reflect.ValueOf(m)) > 0 {
			t.Fatalf("%s\nbecame\n%s", text(old), text(m))
		}
	}
	look(read(t, many))
	modules(t, 200, look)
}

// P11.7, R3: lists of results share no memory, neither with each other, nor with the module, nor with those of another call.
func TestListsApart(t *testing.T) {
	sources := []string{many, text(withEnds(t, example...)), text(withEnds(t, changed...))}
	for seed := range uint64(100) {
		sources = append(sources, makeModule(seed))
	}
	for _, s := range sources {
		m := read(t, s)
		for k := range m.Funcs {
			a, other := ask(t, m, k), ask(t, m, k)
			all := append(lists(reflect.ValueOf(&a.graph)), lists(reflect.ValueOf(&a.loops))...)
			all = append(all, lists(reflect.ValueOf(&a.in))...)
			all = append(all, lists(reflect.ValueOf(&a.out))...)
			all = append(all, lists(reflect.ValueOf(&other.graph))...)
			all = append(all, lists(reflect.ValueOf(&other.loops))...)
			all = append(all, lists(reflect.ValueOf(&other.in))...)
			all = append(all, lists(reflect.ValueOf(&other.out))...)
			if !apart(append(all, lists(reflect.ValueOf(&m))...)) {
				t.Fatalf("%s\n%d: lists share memory", s, k)
			}
		}
	}
}

// P11.7, R3: arguments are not kept.
func TestArgumentsNotKept(t *testing.T) {
	m := read(t, many)
	a, want := ask(t, m, 0), ask(t, read(t, many), 0)
	for _, v := range lists(reflect.ValueOf(&m)) {
		for i := range v.Len() {
			v.Index(i).SetZero()
		}
	}
	if !sameAnswers(a, want) {
		t.Errorf("%v, want %v", a, want)
	}
	if other := ask(t, read(t, many), 0); !sameAnswers(other, want) {
		t.Errorf("%v, want %v", other, want)
	}
}

// P1, R4: empty lists mean the same as nil.
func TestEmptyLists(t *testing.T) {
	modules(t, 200, func(m api.Module) {
		empty := read(t, text(m))
		for _, v := range lists(reflect.ValueOf(&empty)) {
			if v.Len() == 0 {
				v.Set(reflect.MakeSlice(v.Type(), 0, 3))
			}
		}
		for k := range m.Funcs {
			if a, b := ask(t, m, k), ask(t, empty, k); !sameAnswers(a, b) {
				t.Fatalf("%s\n%d: %v, with empty lists %v", text(m), k, a, b)
			}
		}
	})
	none := api.Module{Cells: []api.Cell{}, Arrays: []api.GArray{}, Funcs: []api.IFunc{{Name: "f", Arrays: []api.Array{}, Blocks: []api.Block{{Code: []api.Instr{}, End: api.Term{Op: api.TmReturn}}}}}}
	if a, b := ask(t, none, 0), ask(t, withEnds(t, "return"), 0); !sameAnswers(a, b) {
		t.Errorf("%v, want %v", a, b)
	}
	none.Funcs[0].Blocks = []api.Block{}
	expectErrors(t, none, 0, api.ErrArg)
}

// P1, R6: results depend on the arguments alone, also when many are made at once.
func TestAtOnce(t *testing.T) {
	m := read(t, many)
	want := []*answers{ask(t, m, 0), ask(t, m, 1)}
	var wait sync.WaitGroup
	for range 8 {
		wait.Go(func() {
			for i := range 50 {
				k := i % 2
				g, e := flow.Make(m, k)
				l, f := flow.Loops(m, k)
				in, out, h := flow.Live(m, k)
				is, j := flow.Dominates(m, k, 1, 3)
				if !sameAnswers(&answers{g, l, in, out, want[k].above}, want[k]) || is != (k == 0) || e+f+h+j != api.OK {
					t.Errorf("%v, %v, %v, %v, %v; errors %d, %d, %d, %d", g, l, in, out, is, e, f, h, j)
				}
			}
		})
	}
	wait.Wait()
}

// leaves returns all numbers and truth values of what a pointer leads to, each of which can be set.
func leaves(v reflect.Value) []reflect.Value {
	var all []reflect.Value
	switch v.Kind() {
	case reflect.Pointer:
		return leaves(v.Elem())
	case reflect.Struct:
		for i := range v.NumField() {
			all = append(all, leaves(v.Field(i))...)
		}
	case reflect.Slice:
		for i := range v.Len() {
			all = append(all, leaves(v.Index(i))...)
		}
	case reflect.Int, reflect.Int64, reflect.Bool:
		all = append(all, v)
	}
	return all
}

// P11.7, R1: all functions return for modules in which anything was changed, valid or not, and any other arguments.
func TestAllReturn(t *testing.T) {
	dice := random(6)
	values := []int64{least, -2, -1, 0, 1, 2, 3, 4, 5, 9, 14, 15, 16, 300, 301, greatest}
	valid := 0
	for seed := range uint64(1200) {
		m := read(t, makeModule(seed))
		all := leaves(reflect.ValueOf(&m))
		if v := all[dice.IntN(len(all))]; v.Kind() == reflect.Bool {
			v.SetBool(!v.Bool())
		} else {
			v.SetInt(values[dice.IntN(len(values))])
		}
		k := int(values[dice.IntN(len(values))])
		if dice.IntN(4) > 0 {
			k = dice.IntN(len(m.Funcs))
		}
		switch e := ir.Check(m); {
		case e != api.OK:
			expectErrors(t, m, k, e)
		case k < 0 || k >= len(m.Funcs):
			expectErrors(t, m, k, api.ErrArg)
		default:
			valid++
			expectModel(t, m, k)
		}
	}
	if valid < 120 || valid > 1080 {
		t.Errorf("%d modules are valid", valid)
	}
}
