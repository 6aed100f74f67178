package ir_test

import (
	"math/rand/v2"
	"reflect"
	"testing"

	"cupel/api"
	"cupel/ir"
)

// whole has every kind of instruction, end and array in it, and is canonical.
const whole = `cell g = -5;
cell h = 9223372036854775807;
array a[4] small;
array b[2];
array c[16];
main m;
func m params 0 regs 4 {
	local[2];
	global a;
	local[3] small;
	global b;
	b0:
		r0 = 7;
		r1 = add r0, -1;
		check r0, 4;
		r1 = load a1[r0];
		store a0[1] = r1;
		r2 = get c0;
		put c1 = r2;
		r0 = call f(r1, -1; a0);
		call f(1, r2; a3);
		call p(; a1, a2);
		r3 = call q();
		branch r0, b1, b2;
	b1:
		jump b2;
	b2:
		r1 = phi b0: r0, b1: 3;
		r3 = phi b0: -4, b1: r3;
		print r1;
		return;
	b3:
		r2 = phi;
		trap;
}
func f params 2 regs 2 result {
	param[2];
	global c;
	b0:
		r0 = le r0, r1;
		r1 = r0;
		return r0;
}
func p params 0 regs 0 {
	param[4] small;
	local[1];
	param[3] small;
	b0:
		trap;
}
func q params 0 regs 1 result {
	local[2];
	b0:
		r0 = call f(2, 3; a0);
		return -3;
}
`

func read(t *testing.T, text string) api.Module {
	t.Helper()
	m, at, e := ir.Parse(text)
	if at != 0 || e != api.OK {
		t.Fatalf("Parse(%.300q): error %d at %d", text, e, at)
	}
	return m
}

func text(t *testing.T, m api.Module) string {
	t.Helper()
	s, e := ir.Print(m)
	if e != api.OK {
		t.Fatalf("Print: error %d", e)
	}
	return s
}

func reg(n int) api.Opd { return api.Opd{Reg: n} }

func num(v int64) api.Opd { return api.Opd{Reg: -1, Imm: v} }

// leaves returns all numbers, strings and truth values of what a pointer leads to, each of which can be set.
func leaves(v reflect.Value) []reflect.Value {
	var list []reflect.Value
	switch v.Kind() {
	case reflect.Pointer:
		return leaves(v.Elem())
	case reflect.Struct:
		for i := range v.NumField() {
			list = append(list, leaves(v.Field(i))...)
		}
	case reflect.Slice:
		for i := range v.Len() {
			list = append(list, leaves(v.Index(i))...)
		}
	default:
		list = append(list, v)
	}
	return list
}

// lists returns all lists of what a pointer leads to, each of which can be set.
func lists(v reflect.Value) []reflect.Value {
	var all []reflect.Value
	switch v.Kind() {
	case reflect.Pointer:
		return lists(v.Elem())
	case reflect.Struct:
		for i := range v.NumField() {
			all = append(all, lists(v.Field(i))...)
		}
	case reflect.Slice:
		all = append(all, v)
		for i := range v.Len() {
			all = append(all, lists(v.Index(i))...)
		}
	}
	return all
}

// random draws numbers, always the same ones.
func random(seed uint64) *rand.Rand { return rand.New(rand.NewPCG(seed, 8)) }
