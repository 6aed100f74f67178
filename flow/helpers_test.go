package flow_test

import (
	"fmt"
	"math/rand/v2"
	"reflect"
	"slices"
	"testing"

	"cupel/api"
	"cupel/flow"
	"cupel/ir"
)

func read(t *testing.T, text string) api.Module {
	t.Helper()
	m, at, e := ir.Parse(text)
	if e != api.OK {
		t.Fatalf("Parse(%q): error %d at %d", text, e, at)
	}
	return m
}

func text(m api.Module) string {
	s, _ := ir.Print(m)
	return s
}

// random draws numbers, always the same ones.
func random(seed uint64) *rand.Rand { return rand.New(rand.NewPCG(seed, 11)) }

// withEnds is a module of one function with one register, whose blocks are these ends alone.
func withEnds(t *testing.T, ends ...string) api.Module {
	t.Helper()
	s := "main f; func f params 0 regs 1 { "
	for b, end := range ends {
		s += fmt.Sprintf("b%d: %s; ", b, end)
	}
	return read(t, s+"}")
}

func graph(t *testing.T, m api.Module, k int) api.Graph {
	t.Helper()
	g, e := flow.Make(m, k)
	if e != api.OK {
		t.Fatalf("%s\nMake of %d: error %d", text(m), k, e)
	}
	return g
}

func dominates(t *testing.T, m api.Module, k, a, b int) bool {
	t.Helper()
	is, e := flow.Dominates(m, k, a, b)
	if e != api.OK {
		t.Fatalf("%s\nDominates of %d, %d, %d: error %d", text(m), k, a, b, e)
	}
	return is
}

func loops(t *testing.T, m api.Module, k int) []api.Loop {
	t.Helper()
	list, e := flow.Loops(m, k)
	if e != api.OK {
		t.Fatalf("%s\nLoops of %d: error %d", text(m), k, e)
	}
	return list
}

func live(t *testing.T, m api.Module, k int) (in, out [][]int) {
	t.Helper()
	in, out, e := flow.Live(m, k)
	if e != api.OK {
		t.Fatalf("%s\nLive of %d: error %d", text(m), k, e)
	}
	return in, out
}

// showLoop writes a loop: its head and its blocks; its latches; its exits; its parent.
func showLoop(l api.Loop) string {
	return fmt.Sprint(l.Head, " in ", l.Blocks, " from ", l.Latches, " to ", l.Exits, " of ", l.Parent)
}

func showLoops(list []api.Loop) []string {
	var rows []string
	for _, l := range list {
		rows = append(rows, showLoop(l))
	}
	return rows
}

// sameLists reports whether lists are equal; none and an empty one are.
func sameLists(a, b [][]int) bool { return slices.EqualFunc(a, b, slices.Equal[[]int]) }

func sameGraphs(a, b api.Graph) bool {
	return sameLists(a.Preds, b.Preds) && sameLists(a.Succs, b.Succs) && slices.Equal(a.Order, b.Order) && slices.Equal(a.Idom, b.Idom) && sameLists(a.Front, b.Front)
}

func sameLoops(a, b []api.Loop) bool { return slices.Equal(showLoops(a), showLoops(b)) }

// expectErrors calls all functions, for a function of a module, and wants one error, and nothing besides.
func expectErrors(t *testing.T, m api.Module, k int, want api.Errno) {
	t.Helper()
	if g, e := flow.Make(m, k); e != want || !reflect.ValueOf(g).IsZero() {
		t.Errorf("%v\nMake of %d: %v, %d, want error %d", m, k, g, e, want)
	}
	if list, e := flow.Loops(m, k); e != want || len(list) > 0 {
		t.Errorf("%v\nLoops of %d: %v, %d, want error %d", m, k, list, e, want)
	}
	if in, out, e := flow.Live(m, k); e != want || len(in) > 0 || len(out) > 0 {
		t.Errorf("%v\nLive of %d: %v, %v, %d, want error %d", m, k, in, out, e, want)
	}
	for _, b := range []int{0, 1, -1} {
		expectNoBlock(t, m, k, b, 0, want)
		expectNoBlock(t, m, k, 0, b, want)
	}
}

// expectNoBlock wants an error of Dominates.
func expectNoBlock(t *testing.T, m api.Module, k, a, b int, want api.Errno) {
	t.Helper()
	if is, e := flow.Dominates(m, k, a, b); e != want || is {
		t.Errorf("%v\nDominates of %d, %d, %d: %v, %d, want error %d", m, k, a, b, is, e, want)
	}
}
