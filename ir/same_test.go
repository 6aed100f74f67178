package ir_test

import (
	"math"
	"reflect"
	"testing"

	"cupel/api"
	"cupel/ir"
)

// full is a module, far from valid, in which all lists have elements, and no field is zero.
func full() api.Module {
	next := 0
	number := func() int { next++; return next }
	opd := func() api.Opd { return api.Opd{Reg: number(), Imm: int64(number())} }
	instr := func() api.Instr {
		return api.Instr{Op: number(), Kind: number(), To: number(), A: opd(), B: opd(), Array: number(), Cell: number(), Func: number(), Args: []api.Opd{opd(), opd()}, Arrays: []int{number(), number()}, From: []int{number(), number()}}
	}
	block := func() api.Block {
		return api.Block{Code: []api.Instr{instr(), instr()}, End: api.Term{Op: number(), A: opd(), To: number(), Else: number()}}
	}
	array := func() api.Array {
		return api.Array{Kind: number(), Len: number(), Small: true, Global: number()}
	}
	function := func() api.IFunc {
		return api.IFunc{Name: nameOf(number()), Params: number(), Regs: number(), Result: true, Arrays: []api.Array{array(), array()}, Blocks: []api.Block{block(), block()}}
	}
	return api.Module{
		Cells:  []api.Cell{{Name: "c", Init: 3}, {Name: "d", Init: 4}},
		Arrays: []api.GArray{{Name: "a", Len: 5, Small: true}, {Name: "b", Len: 6, Small: true}},
		Funcs:  []api.IFunc{function(), function()},
		Main:   77,
	}
}

func same(t *testing.T, what string, a, b api.Module, want bool) {
	t.Helper()
	if ir.Same(a, b) != want || ir.Same(b, a) != want {
		t.Errorf("%s: %v, %v, want %v", what, ir.Same(a, b), ir.Same(b, a), want)
	}
}

// P8.1: Same looks at every field, of valid modules and of others.
func TestSameFields(t *testing.T) {
	same(t, "full", full(), full(), true)
	same(t, "nothing", api.Module{}, api.Module{}, true)
	same(t, "nothing and full", api.Module{}, full(), false)
	m := full()
	for i, v := range leaves(reflect.ValueOf(&m)) {
		if v.IsZero() {
			t.Fatalf("field %d is zero", i)
		}
		old := reflect.New(v.Type()).Elem()
		old.Set(v)
		for _, other := range others(v) {
			v.Set(other)
			same(t, "another field", m, full(), false)
		}
		v.Set(old)
		same(t, "the same again", m, full(), true)
	}
}

// others returns other values of the type of a value: zero, and near and far ones.
func others(v reflect.Value) []reflect.Value {
	list := []reflect.Value{reflect.Zero(v.Type())}
	switch v.Kind() {
	case reflect.String:
		list = append(list, reflect.ValueOf(v.String()+"x"), reflect.ValueOf(v.String()+"\x00"), reflect.ValueOf(" "+v.String()))
	case reflect.Int, reflect.Int64:
		for _, n := range []int64{-1, v.Int() + 1, v.Int() - 1, -v.Int(), v.Int() + 1<<32, math.MaxInt64, math.MinInt64} {
			x := reflect.New(v.Type()).Elem()
			x.SetInt(n)
			list = append(list, x)
		}
	}
	return list
}

// P8.1: Same looks at every list; nil and empty ones are equal.
func TestSameLists(t *testing.T) {
	m := full()
	for _, v := range lists(reflect.ValueOf(&m)) {
		old := v.Slice(0, v.Len())
		for _, other := range []reflect.Value{old.Slice(0, 1), old.Slice(1, 2), reflect.AppendSlice(reflect.Zero(v.Type()), reflect.AppendSlice(old.Slice3(0, 2, 2), old)), swapped(old)} {
			v.Set(other)
			same(t, "another list", m, full(), false)
		}
		none := reflect.Zero(v.Type())
		empty := reflect.MakeSlice(v.Type(), 0, 5)
		v.Set(none)
		same(t, "nil", m, full(), false)
		other := clone(m)
		v.Set(empty)
		same(t, "nil and empty", m, other, true)
		v.Set(reflect.MakeSlice(v.Type(), 1, 1))
		same(t, "empty and zero", m, other, false)
		v.Set(old)
	}
	same(t, "the same again", m, full(), true)
}

func swapped(list reflect.Value) reflect.Value {
	return reflect.Append(reflect.Zero(list.Type()), list.Index(1), list.Index(0))
}

// clone is a module of the same fields, in memory of its own.
func clone(m api.Module) api.Module {
	v := reflect.New(reflect.TypeFor[api.Module]()).Elem()
	v.Set(reflect.ValueOf(m))
	cloneLists(v)
	return v.Interface().(api.Module)
}

func cloneLists(v reflect.Value) {
	switch v.Kind() {
	case reflect.Struct:
		for i := range v.NumField() {
			cloneLists(v.Field(i))
		}
	case reflect.Slice:
		if v.IsNil() {
			return
		}
		list := reflect.MakeSlice(v.Type(), v.Len(), v.Len())
		reflect.Copy(list, v)
		v.Set(list)
		for i := range v.Len() {
			cloneLists(v.Index(i))
		}
	}
}

// P8.1: Same of modules that mean the same, but have other fields, or are not valid.
func TestSameOfOthers(t *testing.T) {
	m := read(t, whole)
	same(t, "the same text", m, read(t, "# whole\n"+whole), true)
	n := read(t, whole)
	n.Cells[0].Name = "other"
	same(t, "another name", m, n, false)
	n = read(t, whole)
	n.Funcs[0].Regs++
	same(t, "one more register", m, n, false)
	n = read(t, whole)
	n.Funcs[2].Blocks[0].End.A.Imm = 1
	same(t, "a field that is not used", m, n, false)
	x := clone(n)
	same(t, "not valid", n, x, true)
	same(t, "parts", api.Module{Funcs: []api.IFunc{{Blocks: []api.Block{{}}}}}, api.Module{Funcs: []api.IFunc{{Blocks: []api.Block{{Code: []api.Instr{}}}}}}, true)
	same(t, "parts", api.Module{Funcs: []api.IFunc{{}}}, api.Module{Funcs: []api.IFunc{{Blocks: []api.Block{{}}}}}, false)
	r := random(5)
	for range 300 {
		a, b := makeModule(r, 4), makeModule(r, 4)
		same(t, "made modules", a, b, reflect.DeepEqual(a, b))
		change(r, &b)
		same(t, "clones", b, clone(b), true)
	}
}
