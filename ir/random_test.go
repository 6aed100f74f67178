package ir_test

import (
	"math"
	"math/rand/v2"
	"reflect"
	"testing"

	"cupel/api"
	"cupel/ir"
)

// P8.1: made modules are valid.
func TestMadeModules(t *testing.T) {
	r := random(1)
	calls, given, phis := 0, 0, 0
	for range 2000 {
		m := makeModule(r, 6)
		if e := ir.Check(m); e != api.OK {
			_, wrong := modelCheck(m)
			t.Fatalf("Check: %d; the model: %v\n%+v", e, wrong, m)
		}
		for _, f := range m.Funcs {
			for _, b := range f.Blocks {
				for _, x := range b.Code {
					switch x.Op {
					case api.IxCall:
						calls++
						given += len(x.Arrays)
					case api.IxPhi:
						phis++
					}
				}
			}
		}
	}
	if calls < 1000 || given < 500 || phis < 1000 {
		t.Errorf("%d calls, %d arrays given, %d phis", calls, given, phis)
	}
}

// P8.1: Check of modules of which something was changed.
func TestChangedModules(t *testing.T) {
	r := random(2)
	count := map[string]int{}
	for range 20_000 {
		m := makeModule(r, 5)
		for range 1 + r.IntN(2) {
			change(r, &m)
		}
		e := ir.Check(m)
		want, wrong := modelCheck(m)
		if e != want {
			t.Fatalf("Check: %d, want %d: %v\n%+v", e, want, wrong, m)
		}
		if len(wrong) == 1 {
			count[wrong[0]]++
		}
		count["long"] += btoi(e == api.ErrLong)
		count["right"] += btoi(e == api.OK)
	}
	clauses := []string{"long", "right", "name", "name twice", "length of an array of the module", "main", "head of main", "Params", "Regs", "no block", "kind of an array", "AyGlobal", "AyGlobal twice", "array",
		"place of a phi", "operand", "phi", "Else", "To of an end", "Op of an end", "field of an end", "Op", "To", "To that is not used", "A", "B",
		"kind", "kind that is not used", "array that is not used", "cell", "cell that is not used", "func that is not used", "Args", "Arrays", "From",
		"arguments", "result", "arrays", "array of a call", "size of an array"}
	for _, c := range clauses {
		if count[c] < 2 {
			t.Errorf("%s: %d times alone", c, count[c])
		}
	}
}

// P8.1: calls in cycles, and arrays of the module that are given to what names them.
func TestMadeCalls(t *testing.T) {
	r := random(3)
	count := map[string]int{}
	for range 20_000 {
		m := makeCalls(r)
		e := ir.Check(m)
		want, wrong := modelCheck(m)
		if e != want {
			t.Fatalf("Check: %d, want %d: %v\n%+v", e, want, wrong, m)
		}
		if e == api.OK {
			count["right"]++
		} else {
			count[wrong[0]]++
		}
	}
	if count["right"] < 1000 || count["cycle"] < 1000 || count["shared array"] < 1000 {
		t.Errorf("%v", count)
	}
}

// makeCalls makes a module whose functions do nothing but call each other: they give one array, and get one or none.
func makeCalls(r *rand.Rand) api.Module {
	m := api.Module{Main: 0}
	for i := range 3 {
		m.Arrays = append(m.Arrays, api.GArray{Name: "abc"[i : i+1], Len: 1})
	}
	count := 2 + r.IntN(5)
	for i := range count {
		f := api.IFunc{Name: "abcdefg"[i : i+1], Arrays: []api.Array{{Kind: api.AyLocal, Len: 1}}, Blocks: []api.Block{{End: api.Term{Op: api.TmTrap}}}}
		if i > 0 && r.IntN(3) > 0 {
			f.Arrays[0].Kind = api.AyParam
		}
		if r.IntN(2) == 0 {
			f.Arrays = append(f.Arrays, api.Array{Kind: api.AyGlobal, Global: r.IntN(3)})
		}
		m.Funcs = append(m.Funcs, f)
	}
	for range 1 + r.IntN(2*count) {
		from, to := r.IntN(count), r.IntN(count)
		if r.IntN(8) > 0 {
			from, to = min(from, to), max(from, to)
		}
		x := api.Instr{Op: api.IxCall, To: -1, Func: to}
		if f := m.Funcs[to]; f.Arrays[0].Kind == api.AyParam {
			x.Arrays = []int{r.IntN(len(m.Funcs[from].Arrays))}
		}
		if from != to || r.IntN(20) == 0 {
			b := &m.Funcs[from].Blocks[0]
			b.Code = append(b.Code, x)
		}
	}
	return m
}

func btoi(b bool) int {
	if b {
		return 1
	}
	return 0
}

// change changes a field or a list of a module.
func change(r *rand.Rand, m *api.Module) {
	if r.IntN(4) == 0 {
		all := lists(reflect.ValueOf(m))
		changeList(r, all[r.IntN(len(all))])
		return
	}
	all := leaves(reflect.ValueOf(m))
	v := all[r.IntN(len(all))]
	switch v.Kind() {
	case reflect.Bool:
		v.SetBool(!v.Bool())
	case reflect.String:
		names := []string{"", "_a", "9", "a-", "\xe9", "aaaaaaaaaaaaaaaaa", "AAAAAAAAAAAAAAAA", "b\n"}
		if r.IntN(2) == 0 {
			v.SetString(names[r.IntN(len(names))])
			return
		}
		for _, other := range all {
			if other.Kind() == reflect.String && r.IntN(3) == 0 {
				v.SetString(other.String())
			}
		}
	default:
		values := []int64{math.MinInt64, -2, -1, 0, 1, 2, 3, 4, 5, 8, 9, 14, 15, 16, 17, 300, 301, math.MaxInt64, v.Int() - 1, v.Int() + 1}
		v.SetInt(values[r.IntN(len(values))])
	}
}

// changeList leaves an element out, or has one twice, or changes the places of two.
func changeList(r *rand.Rand, v reflect.Value) {
	n := v.Len()
	if n == 0 {
		v.Set(reflect.MakeSlice(v.Type(), 1, 1))
		return
	}
	i, j := r.IntN(n), r.IntN(n)
	list := reflect.AppendSlice(reflect.Zero(v.Type()), v)
	switch r.IntN(3) {
	case 0:
		v.Set(reflect.AppendSlice(list.Slice(0, i), v.Slice(i+1, n)))
	case 1:
		v.Set(reflect.Append(list, v.Index(i)))
	default:
		list.Index(i).Set(v.Index(j))
		list.Index(j).Set(v.Index(i))
		v.Set(list)
	}
}
