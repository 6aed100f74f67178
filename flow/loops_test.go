package flow_test

import (
	"fmt"
	"slices"
	"testing"

	"cupel/api"
)

// P11.3: loops of some functions, in order.
func TestLoops(t *testing.T) {
	for _, c := range []struct {
		name string
		ends []string
		want []string // head, blocks, latches, exits, parent
	}{
		{"the example of the chapter: the head does not dominate", example, nil},
		{"the one that is changed", changed, []string{"1 in [1 3] from [3] to [4] of -1"}},
		{"none", []string{"branch 0, b1, b2", "jump b2", "return"}, nil},
		{"a block alone", []string{"return"}, nil},
		{"a block that leads to itself", []string{"jump b1", "branch r0, b1, b2", "return"}, []string{"1 in [1] from [1] to [2] of -1"}},
		{"for ever", []string{"jump b1", "jump b1"}, []string{"1 in [1] from [1] to [] of -1"}},
		{"for ever, with more blocks", []string{"jump b1", "branch r0, b2, b3", "jump b1", "jump b1"}, []string{"1 in [1 2 3] from [2 3] to [] of -1"}},
		{"a branch to the head twice", []string{"jump b1", "jump b2", "branch r0, b1, b1"}, []string{"1 in [1 2] from [2] to [] of -1"}},
		{"two latches are one loop, ascending", []string{"jump b2", "branch 0, b2, b4", "branch 0, b3, b1", "branch 0, b4, b2", "return"}, []string{"2 in [1 2 3] from [1 3] to [4] of -1"}},
		{"the head may be a latch, too", []string{"jump b1", "branch 0, b1, b2", "branch 0, b1, b3", "return"}, []string{"1 in [1 2] from [1 2] to [3] of -1"}},
		{"exits are from any block, each once, ascending", []string{"jump b3", "return", "trap", "branch 0, b4, b2", "branch 0, b5, b2", "branch 0, b6, b1", "jump b3"}, []string{"3 in [3 4 5 6] from [6] to [1 2] of -1"}},
		{"no two heads dominate each other", []string{"branch 0, b1, b2", "jump b2", "jump b1"}, nil},
		{"a loop around blocks that lead to each other", []string{"jump b1", "branch 0, b2, b3", "jump b3", "branch 0, b2, b4", "branch 0, b1, b5", "return"}, []string{"1 in [1 2 3 4] from [4] to [5] of -1"}},
		{"in each other, with one latch", []string{"jump b1", "branch 0, b2, b4", "jump b3", "branch 1, b2, b1", "return"}, []string{"1 in [1 2 3] from [3] to [4] of -1", "2 in [2 3] from [3] to [1] of 0"}},
		{"the latch is the head of the inner one", []string{"jump b1", "jump b2", "branch 0, b2, b1"}, []string{"1 in [1 2] from [2] to [] of -1", "2 in [2] from [2] to [1] of 0"}},
		{"three in each other, the least one with the lowest number", []string{"jump b3", "branch 0, b1, b2", "branch 0, b5, b3", "jump b5", "return", "branch 0, b1, b4"},
			[]string{"3 in [1 2 3 5] from [2] to [4] of -1", "5 in [1 2 5] from [2] to [3 4] of 0", "1 in [1] from [1] to [2] of 1"}},
		{"the lower head is first of two with as many blocks", []string{"jump b3", "jump b2", "branch 0, b1, b5", "jump b4", "branch 0, b3, b1", "return"}, []string{"1 in [1 2] from [2] to [5] of -1", "3 in [3 4] from [4] to [1] of -1"}},
		{"more blocks are first, though the head is not lower", []string{"jump b1", "branch 0, b1, b2", "jump b3", "branch 0, b2, b4", "return"}, []string{"2 in [2 3] from [3] to [4] of -1", "1 in [1] from [1] to [2] of -1"}},
		{"two inside of one", []string{"jump b1", "jump b2", "branch 0, b2, b3", "branch 0, b3, b4", "branch 0, b1, b5", "return"},
			[]string{"1 in [1 2 3 4] from [4] to [5] of -1", "2 in [2] from [2] to [3] of 0", "3 in [3] from [3] to [4] of 0"}},
		{"the parent is not the loop before it", []string{"jump b1", "branch 0, b2, b5", "jump b3", "branch 0, b2, b4", "branch 0, b4, b1", "branch 0, b5, b6", "return"},
			[]string{"1 in [1 2 3 4] from [4] to [5] of -1", "2 in [2 3] from [3] to [4] of 0", "4 in [4] from [4] to [1] of 0", "5 in [5] from [5] to [6] of -1"}},
		{"a head is left and entered by a way around", []string{"jump b1", "branch 0, b2, b3", "branch 0, b1, b3", "branch 0, b1, b4", "return"}, []string{"1 in [1 2 3] from [2 3] to [4] of -1"}},
	} {
		if got := showLoops(loops(t, withEnds(t, c.ends...), 0)); !slices.Equal(got, c.want) {
			t.Errorf("%s: %q, want %q", c.name, got, c.want)
		}
	}
}

// P11.3: blocks that are not reached are in no loop, are no latches, and have none.
func TestLoopsNotReached(t *testing.T) {
	for _, c := range []struct {
		name string
		ends []string
		want []string
	}{
		{"a loop", []string{"return", "jump b1", "jump b3", "jump b2"}, nil},
		{"it leads to a head", []string{"jump b1", "branch 0, b1, b2", "return", "jump b1"}, []string{"1 in [1] from [1] to [2] of -1"}},
		{"it leads to a block of a loop", []string{"jump b1", "jump b3", "jump b3", "branch 0, b1, b4", "return"}, []string{"1 in [1 3] from [3] to [4] of -1"}},
		{"it leads to a latch and to the head", []string{"jump b2", "branch 0, b2, b3", "jump b3", "branch 0, b2, b4", "return"}, []string{"2 in [2 3] from [3] to [4] of -1"}},
		{"it leads to a head without a loop", []string{"jump b1", "return", "jump b1"}, nil},
	} {
		if got := showLoops(loops(t, withEnds(t, c.ends...), 0)); !slices.Equal(got, c.want) {
			t.Errorf("%s: %q, want %q", c.name, got, c.want)
		}
	}
}

// P11.3: as many loops in each other as there may be blocks.
func TestLoopsMost(t *testing.T) {
	last := api.MaxIBlocks - 1
	ends := []string{"jump b1"}
	for b := 1; b < last; b++ {
		ends = append(ends, fmt.Sprintf("branch 0, b%d, b%d", b, b+1))
	}
	alone := loops(t, withEnds(t, append(ends, "return")...), 0)
	for b := 1; b < last; b++ {
		ends[b] = fmt.Sprintf("jump b%d", b+1)
	}
	around := loops(t, withEnds(t, append(ends, "jump b1")...), 0)
	for i, l := range alone {
		if want := fmt.Sprintf("%d in [%d] from [%d] to [%d] of -1", i+1, i+1, i+1, i+2); showLoop(l) != want {
			t.Errorf("%s, want %s", showLoop(l), want)
		}
	}
	if len(alone) != last-1 || len(around) != 1 || len(around[0].Blocks) != last {
		t.Errorf("%d, %q", len(alone), showLoops(around))
	}
}

// P11.3: only the function that is meant is looked at.
func TestLoopsOfFunctions(t *testing.T) {
	m := read(t, "main f; func f params 0 regs 0 { b0: call g(1); jump b1; b1: jump b1; } func g params 1 regs 1 { b0: jump b1; b1: branch r0, b2, b3; b2: jump b1; b3: return; } func h params 0 regs 0 { b0: return; }")
	for k, want := range []string{`["1 in [1] from [1] to [] of -1"]`, `["1 in [1 2] from [2] to [3] of -1"]`, "[]"} {
		if got := showLoops(loops(t, m, k)); fmt.Sprintf("%q", got) != want {
			t.Errorf("%d: %q, want %s", k, got, want)
		}
	}
}
