package types_test

import (
	"fmt"
	"math"
	"testing"

	"cupel/api"
	"cupel/syntax"
	"cupel/types"
)

const scoped = `global g: int;
global a: bool;
func f(a1: small[3], n: int): int {
	let x: small;
	if n > 0 {
		let y: int[1];
		x = 1s;
		let z: bool;
	} else {
		let w: int = n;
		x = 2s;
		trap;
	}
	let v: int;
	while x > 1s upto 3 {
		let z: int;
		v = 1;
		for i in n .. 5 {
			z = i;
			let y: bool = true;
			break;
		}
		if a {
		}
	}
	for j in 0 .. n {
		v = j;
	}
	return n;
}
func main() {
	let u: int;
	return;
	let t: int;
}
`

// P2.3: names at the places of statements, and after the last ones.
func TestNames(t *testing.T) {
	const f = "global g:int+ global a:bool+ param a1:small[3]+ param n:int+"
	const m = "global g:int+ global a:bool+"
	p := read(t, scoped)
	want := map[string]string{
		"[0 0]":     f,
		"[0 1]":     f + " let x:small-",
		"[0 1 0 0]": f + " let x:small-",
		"[0 1 0 1]": f + " let x:small- let y:int[1]+",
		"[0 1 0 2]": f + " let x:small+ let y:int[1]+",
		"[0 1 0 3]": f + " let x:small+ let y:int[1]+ let z:bool-",
		"[0 1 1 0]": f + " let x:small-",
		"[0 1 1 1]": f + " let x:small- let w:int+",
		"[0 1 1 2]": f + " let x:small+ let w:int+",
		"[0 1 1 3]": f + " let x:small+ let w:int+",
		"[0 2]":     f + " let x:small+",
		"[0 3]":     f + " let x:small+ let v:int-",
		"[0 3 0 0]": f + " let x:small+ let v:int-",
		"[0 3 0 1]": f + " let x:small+ let v:int- let z:int-",
		"[0 3 0 2]": f + " let x:small+ let v:int+ let z:int-",

		"[0 3 0 2 0 0]": f + " let x:small+ let v:int+ let z:int- for i:int+",
		"[0 3 0 2 0 1]": f + " let x:small+ let v:int+ let z:int+ for i:int+",
		"[0 3 0 2 0 2]": f + " let x:small+ let v:int+ let z:int+ for i:int+ let y:bool+",
		"[0 3 0 2 0 3]": f + " let x:small+ let v:int+ let z:int+ for i:int+ let y:bool+",
		"[0 3 0 3]":     f + " let x:small+ let v:int+ let z:int-",
		"[0 3 0 3 0 0]": f + " let x:small+ let v:int+ let z:int-",
		"[0 3 0 3 1 0]": f + " let x:small+ let v:int+ let z:int-",
		"[0 3 0 4]":     f + " let x:small+ let v:int+ let z:int-",

		"[0 4]":     f + " let x:small+ let v:int-",
		"[0 4 0 0]": f + " let x:small+ let v:int- for j:int+",
		"[0 4 0 1]": f + " let x:small+ let v:int+ for j:int+",
		"[0 5]":     f + " let x:small+ let v:int-",
		"[0 6]":     f + " let x:small+ let v:int+",

		"[1 0]": m,
		"[1 1]": m + " let u:int-",
		"[1 2]": m + " let u:int+",
		"[1 3]": m + " let u:int+ let t:int-",
	}
	paths := places(p)
	for _, path := range paths {
		if names, e := types.Names(p, path); e != api.OK || show(names) != want[fmt.Sprint(path)] {
			t.Errorf("Names %v: %s, %d, want %s", path, show(names), e, want[fmt.Sprint(path)])
		}
	}
	if len(paths) != len(want) {
		t.Errorf("%d places, want %d", len(paths), len(want))
	}
}

// P2.3: for an expression the names where its statement stands.
func TestNamesOfExpressions(t *testing.T) {
	for _, text := range []string{scoped, typical} {
		p := read(t, text)
		paths, _ := syntax.Places(p)
		found := 0
		for _, path := range paths {
			n, _ := syntax.At(p, path)
			if n.Kind != api.NdExpr {
				continue
			}
			found++
			got, e := types.Names(p, path)
			want, f := types.Names(p, statementOf(p, path))
			if e != api.OK || f != api.OK || show(got) != show(want) {
				t.Errorf("Names %v: %s, %d, want %s, %d", path, show(got), e, show(want), f)
			}
		}
		if found < 15 {
			t.Errorf("%d expressions", found)
		}
	}
}

// statementOf cuts the path of an expression back to that of its statement.
func statementOf(p api.Program, path []int) []int {
	for {
		if n, _ := syntax.At(p, path); n.Kind == api.NdStmt {
			return path
		}
		path = path[:len(path)-1]
	}
}

// P2.3: paths of no place.
func TestNamesNowhere(t *testing.T) {
	p := read(t, scoped)
	for _, path := range [][]int{
		nil, {}, {0}, {1}, {2}, {-1}, {0, -1}, {0, 7}, {1, 4}, {2, 0}, {math.MinInt, 0}, {0, math.MaxInt}, {0, 0, 0}, {0, 0, 0, 0}, {0, 0, 1, 0}, {0, 1, 0}, {0, 1, 1}, {0, 1, 0, 4}, {0, 1, 1, 4}, {0, 1, 0, -1},
		{0, 3, 1, 0}, {0, 4, 1, 0}, {0, 5, 0, 0}, {0, 2, 0, 0}, {0, 0, 2}, {0, 1, 3}, {0, 1, -1}, {0, 1, -1, 0}, {0, 1, 2, 2}, {0, 1, 2, 0, 0}, {0, 5, 2, 0}, {0, 6, 2}, {1, 1, 2}, {1, 3, 0, 0}, {0, 3, 0, 4, 0, 0}, {0, 3, 0, 3, 1, 1},
	} {
		if names, e := types.Names(p, path); e != api.ErrNone || len(names) != 0 {
			t.Errorf("Names %v: %s, %d", path, show(names), e)
		}
	}
}

// P2.3: a name may be used at a place as Names says: it is read if it has a value, and other names are not known.
func TestNamesMayBeUsed(t *testing.T) {
	for _, text := range []string{scoped, typical} {
		p := read(t, text)
		for _, path := range places(p) {
			names, e := types.Names(p, path)
			if e != api.OK {
				t.Fatalf("Names %v: %d", path, e)
			}
			for _, name := range []string{"g", "a", "a1", "n", "x", "y", "z", "w", "v", "i", "j", "u", "t", "s", "b", "q"} {
				k, visible := find(names, name)
				want := 0
				switch {
				case !visible:
					want = api.FlName
				case k.Type.Len > 0:
					want = api.FlType
				case !k.Set:
					want = api.FlUnset
				}
				expectInserted(t, p, path, api.Stmt{Kind: api.StPrint, Exprs: []api.Expr{{Kind: api.ExName, Name: name}}}, want)
				if visible {
					expectInserted(t, p, path, api.Stmt{Kind: api.StLet, Name: name, Type: api.Type{Kind: api.TyInt}}, api.FlAgain)
				}
				if visible && k.Where == api.KnFor {
					expectInserted(t, p, path, api.Stmt{Kind: api.StSet, Name: name, Exprs: []api.Expr{{Kind: api.ExInt}}}, api.FlFixed)
				}
			}
		}
	}
}

func expectInserted(t *testing.T, p api.Program, path []int, s api.Stmt, want int) {
	t.Helper()
	q, e := syntax.Insert(p, path, s)
	flaw, f := types.Check(q)
	if e != api.OK || f != api.OK || flaw.Code != want {
		t.Errorf("%v inserted at %v: %v, %d, %d, want %d", s, path, flaw, e, f, want)
	}
}
