package syntax_test

import (
	"math"
	"reflect"
	"slices"
	"strings"
	"testing"

	"cupel/api"
	"cupel/syntax"
)

const sample = "func f() { a[1] = 2; if !b { trap; break; } else { continue; } for i in 0 .. 3 { x = 1; } while c upto 2 { } return f(1, y); } func main() { f(); }"

// P1.4: all paths, in order.
func TestPlaces(t *testing.T) {
	paths, e := syntax.Places(read(t, sample))
	var got []string
	for _, path := range paths {
		got = append(got, pathText(path))
	}
	want := "[0] [0 0] [0 0 2] [0 0 3] [0 1] [0 1 2] [0 1 2 0] [0 1 0 0] [0 1 0 1] [0 1 1 0] [0 2] [0 2 2] [0 2 3] [0 2 0 0] [0 2 0 0 2] [0 3] [0 3 2] [0 4] [0 4 2] [0 4 2 0] [0 4 2 1] [1] [1 0] [1 0 2]"
	if e != api.OK || strings.Join(got, " ") != want {
		t.Errorf("%s, %d", strings.Join(got, " "), e)
	}
	if paths, e := syntax.Places(read(t, "global g: int;")); len(paths) != 0 || e != api.OK {
		t.Errorf("no nodes: %v, %d", paths, e)
	}
	for want, p := range wrongPrograms() {
		if paths, e := syntax.Places(p); len(paths) != 0 || e != want {
			t.Errorf("a wrong program: %v, %d", paths, e)
		}
	}
}

// P1.4: the nodes at paths, with one field alone.
func TestAt(t *testing.T) {
	p := read(t, sample)
	f := func(x api.Func) api.Node { return api.Node{Kind: api.NdFunc, Func: x} }
	s := func(x api.Stmt) api.Node { return api.Node{Kind: api.NdStmt, Stmt: x} }
	x := func(x api.Expr) api.Node { return api.Node{Kind: api.NdExpr, Expr: x} }
	for _, c := range []struct {
		path []int
		want api.Node
	}{
		{[]int{0}, f(p.Funcs[0])}, {[]int{1}, f(p.Funcs[1])},
		{[]int{0, 0}, s(p.Funcs[0].Body[0])}, {[]int{0, 1, 0, 1}, s(api.Stmt{Kind: api.StBreak})}, {[]int{0, 1, 1, 0}, s(api.Stmt{Kind: api.StContinue})}, {[]int{0, 4}, s(p.Funcs[0].Body[4])},
		{[]int{0, 0, 2}, x(number(1))}, {[]int{0, 0, 3}, x(number(2))}, {[]int{0, 1, 2}, x(p.Funcs[0].Body[1].Exprs[0])}, {[]int{0, 1, 2, 0}, x(name("b"))}, {[]int{0, 4, 2, 1}, x(name("y"))}, {[]int{1, 0, 2}, x(api.Expr{Kind: api.ExCall, Name: "f"})},
	} {
		if n, e := syntax.At(p, c.path); e != api.OK || !reflect.DeepEqual(n, c.want) {
			t.Errorf("At %v: %v, %d", c.path, n, e)
		}
	}
}

// P1.4: paths of no node.
func TestNowhere(t *testing.T) {
	p := read(t, sample)
	for _, path := range [][]int{
		nil, {}, {-1}, {2}, {math.MaxInt}, {math.MinInt}, {0, -1}, {0, 5}, {0, math.MinInt}, {2, 0}, {-1, 0}, {1, 1},
		{0, 1, 0}, {0, 1, 1}, {0, 1, 0, 2}, {0, 1, 0, -1}, {0, 1, 1, 1}, {0, 1, 3}, {0, 1, -1}, {0, 1, -1, 0}, {0, 1, math.MinInt}, {0, 1, math.MinInt, 0}, {0, 1, math.MaxInt},
		{0, 0, 0, 0}, {0, 0, 1, 0}, {0, 2, 1, 0}, {0, 3, 0, 0}, {0, 3, 1, 0}, {0, 0, 4}, {0, 0, 2, 0}, {0, 1, 2, 1}, {0, 1, 2, -1}, {0, 1, 2, 0, 0}, {0, 4, 2, 2}, {0, 1, 0, 0, 0, 0}, {0, 1, 0, 0, 2},
	} {
		if n, e := syntax.At(p, path); e != api.ErrNone || !reflect.DeepEqual(n, api.Node{}) {
			t.Errorf("At %v: %v, %d", path, n, e)
		}
		if _, e := syntax.Replace(p, path, api.Node{}); e != api.ErrNone {
			t.Errorf("Replace %v: %d", path, e)
		}
		if _, e := syntax.Delete(p, path); e != api.ErrNone {
			t.Errorf("Delete %v: %d", path, e)
		}
	}
	for want, p := range wrongPrograms() {
		for _, path := range [][]int{{0}, nil} {
			if n, e := syntax.At(p, path); e != want || !reflect.DeepEqual(n, api.Node{}) {
				t.Errorf("a wrong program: %v, %d", n, e)
			}
		}
	}
}

// P1.7: Size counts Places, which are also those of Spans; each leads to a node, and all to different ones.
func TestSizeCountsPlaces(t *testing.T) {
	programs(t, func(p api.Program) {
		paths, _ := syntax.Places(p)
		spans, _ := syntax.Spans(p)
		if len(paths) != syntax.Size(p) || len(spans) != len(paths) {
			t.Fatalf("%d places, %d spans, size %d", len(paths), len(spans), syntax.Size(p))
		}
		seen := map[string]bool{}
		for i, path := range paths {
			if _, e := syntax.At(p, path); e != api.OK || seen[pathText(path)] || !slices.Equal(path, spans[i].Path) {
				t.Fatalf("place %v: %d", path, e)
			}
			seen[pathText(path)] = true
		}
	})
}
