package rules

import (
	"reflect"

	"cupel/samples"
)

// visit calls look with all values that a pointer leads to, each one before its parts.
func visit(v reflect.Value, look func(v reflect.Value)) {
	look(v)
	switch v.Kind() {
	case reflect.Pointer:
		visit(v.Elem(), look)
	case reflect.Struct:
		for i := range v.NumField() {
			visit(v.Field(i), look)
		}
	case reflect.Slice:
		for i := range v.Len() {
			visit(v.Index(i), look)
		}
	}
}

// lists returns all lists of what pointers lead to.
func lists(pointers ...any) []reflect.Value {
	var all []reflect.Value
	for _, p := range pointers {
		visit(reflect.ValueOf(p), func(v reflect.Value) {
			if v.Kind() == reflect.Slice {
				all = append(all, v)
			}
		})
	}
	return all
}

// stretch makes each list of what a pointer leads to the beginning of a longer one.
func stretch(pointer any) {
	visit(reflect.ValueOf(pointer), func(v reflect.Value) {
		if v.Kind() == reflect.Slice {
			n := v.Len()
			long := reflect.MakeSlice(v.Type(), n+2, n+3)
			reflect.Copy(long, v)
			v.Set(long.Slice(0, n))
		}
	})
}

// hidden counts what stands behind the ends of lists and is not zero.
func hidden(pointer any) int {
	count := 0
	for _, v := range lists(pointer) {
		for i := v.Len(); i < v.Cap(); i++ {
			if !v.Slice(0, v.Cap()).Index(i).IsZero() {
				count++
			}
		}
	}
	return count
}

// apart reports whether no two lists share memory, also behind their ends.
func apart(all []reflect.Value) bool {
	seen := map[uintptr]bool{}
	for _, v := range all {
		for i := range v.Cap() {
			at := v.Pointer() + uintptr(i)*v.Type().Elem().Size()
			if seen[at] {
				return false
			}
			seen[at] = true
		}
	}
	return true
}

// same reports whether two pointers lead to the same, where empty lists may be nil.
func same(a, b any) bool { return equal(reflect.ValueOf(a), reflect.ValueOf(b)) }

func equal(a, b reflect.Value) bool {
	switch a.Kind() {
	case reflect.Pointer:
		return equal(a.Elem(), b.Elem())
	case reflect.Struct:
		for i := range a.NumField() {
			if !equal(a.Field(i), b.Field(i)) {
				return false
			}
		}
		return true
	case reflect.Slice:
		for i := 0; i < a.Len() && i < b.Len(); i++ {
			if !equal(a.Index(i), b.Index(i)) {
				return false
			}
		}
		return a.Len() == b.Len()
	}
	return a.Equal(b)
}

// change sets one number or truth value of what a pointer leads to to something else.
func change(pointer any, dice *samples.Dice, value int64) {
	var leaves []reflect.Value
	visit(reflect.ValueOf(pointer), func(v reflect.Value) {
		if v.CanInt() || v.Kind() == reflect.Bool {
			leaves = append(leaves, v)
		}
	})
	if v := leaves[dice.IntN(len(leaves))]; v.Kind() == reflect.Bool {
		v.SetBool(!v.Bool())
	} else {
		v.SetInt(value)
	}
}
