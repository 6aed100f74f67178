package flow_test

import (
	"fmt"
	"slices"
	"testing"

	"cupel/api"
)

// example is the function of the chapter, and changed the one that its last example makes of it.
var (
	example = []string{"branch 0, b1, b2", "jump b3", "jump b3", "branch 0, b1, b4", "return"}
	changed = []string{"jump b1", "jump b3", "jump b4", "branch 0, b1, b4", "return"}
)

// shape is a function by the ends of its blocks, and what is wanted of its graph.
type shape struct {
	name                             string
	ends                             []string
	preds, succs, order, idom, front string
}

func expectGraph(t *testing.T, c shape) {
	t.Helper()
	g := graph(t, withEnds(t, c.ends...), 0)
	got := []string{fmt.Sprint(g.Preds), fmt.Sprint(g.Succs), fmt.Sprint(g.Order), fmt.Sprint(g.Idom), fmt.Sprint(g.Front)}
	if want := []string{c.preds, c.succs, c.order, c.idom, c.front}; !slices.Equal(got, want) {
		t.Errorf("%s: preds, succs, order, idom, front\n%q, want\n%q", c.name, got, want)
	}
}

// P11.1: graphs of some functions.
func TestMake(t *testing.T) {
	for _, c := range []shape{
		{"the example of the chapter", example,
			"[[] [0 3] [0] [1 2] [3]]", "[[1 2] [3] [3] [1 4] []]", "[0 2 1 3 4]", "[-1 0 0 0 3]", "[[] [3] [3] [1] []]"},
		{"the one that is changed", changed,
			"[[] [0 3] [] [1] [2 3]]", "[[1] [3] [4] [1 4] []]", "[0 1 3 4]", "[-1 0 -2 1 3]", "[[] [1] [] [1] []]"},
		{"a return", []string{"return"}, "[[]]", "[[]]", "[0]", "[-1]", "[[]]"},
		{"a trap", []string{"trap"}, "[[]]", "[[]]", "[0]", "[-1]", "[[]]"},
		{"one behind the other", []string{"jump b1", "jump b2", "trap"}, "[[] [0] [1]]", "[[1] [2] []]", "[0 1 2]", "[-1 0 1]", "[[] [] []]"},
		{"one before the other", []string{"jump b3", "return", "jump b1", "jump b2"}, "[[] [2] [3] [0]]", "[[3] [] [1] [2]]", "[0 3 2 1]", "[-1 2 3 0]", "[[] [] [] []]"},
		{"a branch to one block is one edge", []string{"branch r0, b1, b1", "return"}, "[[] [0]]", "[[1] []]", "[0 1]", "[-1 0]", "[[] []]"},
		{"from the lower one on, whichever is Else", []string{"branch r0, b2, b1", "return", "return"}, "[[] [0] [0]]", "[[1 2] [] []]", "[0 2 1]", "[-1 0 0]", "[[] [] []]"},
		{"the same with To and Else changed", []string{"branch r0, b1, b2", "return", "return"}, "[[] [0] [0]]", "[[1 2] [] []]", "[0 2 1]", "[-1 0 0]", "[[] [] []]"},
		{"predecessors are ascending", []string{"branch r0, b3, b2", "return", "jump b1", "branch 1, b2, b1"}, "[[] [2 3] [0 3] [0]]", "[[2 3] [] [1] [1 2]]", "[0 3 2 1]", "[-1 0 0 0]", "[[] [] [1] [1 2]]"},
		{"blocks that have been entered are not entered again", []string{"branch 0, b1, b2", "jump b3", "jump b1", "return"}, "[[] [0 2] [0] [1]]", "[[1 2] [3] [1] []]", "[0 2 1 3]", "[-1 0 0 1]", "[[] [] [1] []]"},
		{"a block that leads to itself", []string{"jump b1", "branch r0, b1, b2", "return"}, "[[] [0 1] [1]]", "[[1] [1 2] []]", "[0 1 2]", "[-1 0 1]", "[[] [1] []]"},
		{"for ever", []string{"jump b1", "jump b1"}, "[[] [0 1]]", "[[1] [1]]", "[0 1]", "[-1 0]", "[[] [1]]"},
		{"no block dominates the other", []string{"branch 0, b1, b2", "jump b2", "jump b1"}, "[[] [0 2] [0 1]]", "[[1 2] [2] [1]]", "[0 1 2]", "[-1 0 0]", "[[] [2] [1]]"},
		{"nested loops", []string{"jump b1", "jump b2", "branch 0, b2, b3", "branch 0, b1, b4", "return"},
			"[[] [0 3] [1 2] [2] [3]]", "[[1] [2] [2 3] [1 4] []]", "[0 1 2 3 4]", "[-1 0 1 2 3]", "[[] [1] [1 2] [1] []]"},
		{"a way around some", []string{"branch r0, b1, b5", "branch r0, b2, b3", "jump b4", "jump b4", "jump b5", "return"},
			"[[] [0] [1] [1] [2 3] [0 4]]", "[[1 5] [2 3] [4] [4] [5] []]", "[0 1 3 2 4 5]", "[-1 0 1 1 1 0]", "[[] [5] [4] [4] [5] []]"},
	} {
		expectGraph(t, c)
	}
}

// P11.1: blocks that are not reached have predecessors and successors, and are that of others, but change nothing of the order, of dominators and frontiers.
func TestNotReached(t *testing.T) {
	for _, c := range []shape{
		{"it leads to one that is reached", []string{"jump b2", "jump b2", "branch r0, b2, b3", "trap"}, "[[] [] [0 1 2] [2]]", "[[2] [2] [2 3] []]", "[0 2 3]", "[-1 -2 0 2]", "[[] [] [2] []]"},
		{"it leads to where two ways meet", []string{"branch 1, b1, b2", "jump b3", "jump b3", "return", "branch 0, b1, b3"}, "[[] [0 4] [0] [1 2 4] []]", "[[1 2] [3] [3] [] [1 3]]", "[0 2 1 3]", "[-1 0 0 0 -2]", "[[] [3] [3] [] []]"},
		{"alone", []string{"trap", "return"}, "[[] []]", "[[] []]", "[0]", "[-1 -2]", "[[] []]"},
		{"it leads to itself", []string{"return", "jump b1"}, "[[] [1]]", "[[] [1]]", "[0]", "[-1 -2]", "[[] []]"},
		{"loops", []string{"jump b4", "jump b2", "branch 0, b1, b3", "branch 1, b3, b4", "return"}, "[[] [2] [1] [2 3] [0 3]]", "[[4] [2] [1 3] [3 4] []]", "[0 4]", "[-1 -2 -2 -2 0]", "[[] [] [] [] []]"},
	} {
		expectGraph(t, c)
	}
}

// P11.1: one end for each of the most blocks that there may be.
func TestMakeMost(t *testing.T) {
	var line, back []string
	for b := 1; b < api.MaxIBlocks; b++ {
		line = append(line, fmt.Sprintf("jump b%d", b))
		back = append(back, fmt.Sprintf("branch 0, b%d, b1", b))
	}
	line, back = append(line, "return"), append(back, "return")
	g := graph(t, withEnds(t, line...), 0)
	h := graph(t, withEnds(t, back...), 0)
	for b := range api.MaxIBlocks {
		if g.Order[b] != b || h.Order[b] != b || g.Idom[b] != b-1 || h.Idom[b] != b-1 || len(g.Front[b]) > 0 || len(h.Front[b]) > 1 {
			t.Errorf("%d: %d, %d; %d, %d; %v, %v", b, g.Order[b], h.Order[b], g.Idom[b], h.Idom[b], g.Front[b], h.Front[b])
		}
	}
	if len(h.Preds[1]) != api.MaxIBlocks-1 || fmt.Sprint(h.Front[58]) != "[1]" || len(h.Front[59]) > 0 {
		t.Errorf("%v, %v", h.Preds[1], h.Front)
	}
}

// P11.1: only the function that is meant is looked at.
func TestMakeOfFunctions(t *testing.T) {
	m := read(t, "main f; func g params 1 regs 1 { b0: branch r0, b1, b2; b1: trap; b2: return; } func f params 0 regs 0 { b0: jump b1; b1: call g(1); return; } func h params 0 regs 0 { b0: return; b1: jump b1; }")
	for k, want := range []string{"[[1 2] [] []]", "[[1] []]", "[[] [1]]"} {
		if g := graph(t, m, k); fmt.Sprint(g.Succs) != want {
			t.Errorf("%d: %v, want %s", k, g.Succs, want)
		}
	}
}

// P11.2: blocks that are reached dominate themselves, and those to which all ways go through them.
func TestDominates(t *testing.T) {
	for i, c := range []struct {
		ends []string
		want string // for each block, which ones it dominates
	}{
		{example, "[[0 1 2 3 4] [1] [2] [3 4] [4]]"},
		{changed, "[[0 1 3 4] [1 3 4] [] [3 4] [4]]"},
		{[]string{"return"}, "[[0]]"},
		{[]string{"return", "jump b2", "jump b1"}, "[[0] [] []]"},
		{[]string{"jump b2", "jump b2", "branch r0, b2, b3", "trap"}, "[[0 2 3] [] [2 3] [3]]"},
		{[]string{"branch 0, b1, b2", "jump b2", "jump b1"}, "[[0 1 2] [1] [2]]"},
		{[]string{"jump b3", "return", "jump b1", "jump b2"}, "[[0 1 2 3] [1] [1 2] [1 2 3]]"},
		{[]string{"branch r0, b1, b5", "branch r0, b2, b3", "jump b4", "jump b4", "jump b5", "return"}, "[[0 1 2 3 4 5] [1 2 3 4] [2] [3] [4] [5]]"},
	} {
		m := withEnds(t, c.ends...)
		all := make([][]int, len(c.ends))
		for a := range all {
			all[a] = choose(len(all), func(b int) bool { return dominates(t, m, 0, a, b) })
		}
		if fmt.Sprint(all) != c.want {
			t.Errorf("%d: %v, want %s", i, all, c.want)
		}
	}
}

// P11.2: only the function that is meant is looked at.
func TestDominatesInFunctions(t *testing.T) {
	m := read(t, "main f; func f params 0 regs 0 { b0: jump b1; b1: jump b2; b2: return; } func g params 1 regs 1 { b0: branch r0, b1, b2; b1: jump b2; b2: return; }")
	if !dominates(t, m, 0, 1, 2) || dominates(t, m, 1, 1, 2) {
		t.Error("another function")
	}
}
