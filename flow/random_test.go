package flow_test

import (
	"math/rand/v2"
	"slices"
	"testing"

	"cupel/api"
)

// modules calls look with many modules.
func modules(t *testing.T, count int, look func(m api.Module)) {
	t.Helper()
	for seed := range uint64(count) {
		look(read(t, makeModule(seed)))
	}
}

// ofEnds is a module of one function, whose blocks have no instructions.
func ofEnds(ends ...api.Term) api.Module {
	f := api.IFunc{Name: "f"}
	for _, end := range ends {
		f.Blocks = append(f.Blocks, api.Block{End: end})
	}
	return api.Module{Funcs: []api.IFunc{f}}
}

// allEnds returns all ends, but for traps, of a function with so many blocks.
func allEnds(count int) []api.Term {
	list := []api.Term{{Op: api.TmReturn}}
	for to := 1; to < count; to++ {
		list = append(list, api.Term{Op: api.TmJump, To: to})
		for other := 1; other < count; other++ {
			list = append(list, api.Term{Op: api.TmBranch, A: api.Opd{Reg: -1}, To: to, Else: other})
		}
	}
	return list
}

// allGraphs calls look with all functions that have so many blocks without instructions, but for traps.
func allGraphs(count int, look func(m api.Module)) {
	choices := allEnds(count)
	var fill func(ends []api.Term)
	fill = func(ends []api.Term) {
		if len(ends) == count {
			look(ofEnds(ends...))
			return
		}
		for _, end := range choices {
			fill(append(slices.Clip(ends), end))
		}
	}
	fill(nil)
}

// randomGraph is a function of so many blocks, each of which leads to any others; or mostly to the next one, and to any others; or mostly to the next one, and back.
func randomGraph(r *rand.Rand, count int) api.Module {
	style, near := r.IntN(3), 1+r.IntN(count)
	targets := func(b int) (to, other int) {
		to, other = 1+r.IntN(count-1), 1+r.IntN(count-1)
		if style > 0 && b+1 < count && r.IntN(8) > 0 {
			to = b + 1
		}
		if style > 1 {
			other = max(1, b-r.IntN(near))
		}
		return to, other
	}
	if count == 1 {
		return ofEnds(api.Term{Op: api.TmReturn})
	}
	var ends []api.Term
	for b := range count {
		to, other := targets(b)
		switch kind := r.IntN(10); {
		case r.IntN(2*count) == 0:
			ends = append(ends, api.Term{Op: api.TmReturn})
		case kind == 0:
			ends = append(ends, api.Term{Op: api.TmJump, To: other})
		case kind < 4:
			ends = append(ends, api.Term{Op: api.TmJump, To: to})
		case kind < 7:
			ends = append(ends, api.Term{Op: api.TmBranch, A: api.Opd{Reg: -1}, To: other, Else: to})
		default:
			ends = append(ends, api.Term{Op: api.TmBranch, A: api.Opd{Reg: -1}, To: to, Else: other})
		}
	}
	return ofEnds(ends...)
}

// renumbered is a module of such a function whose blocks but for the first one have other numbers.
func renumbered(r *rand.Rand, m api.Module) api.Module {
	f := m.Funcs[0]
	to := append([]int{0}, r.Perm(len(f.Blocks)-1)...)
	for b := 1; b < len(to); b++ {
		to[b]++
	}
	ends := make([]api.Term, len(to))
	for b, block := range f.Blocks {
		end := block.End
		if end.To > 0 {
			end.To = to[end.To]
		}
		if end.Else > 0 {
			end.Else = to[end.Else]
		}
		ends[to[b]] = end
	}
	return ofEnds(ends...)
}

// expectModel compares the graph and the loops of a function with those of the model.
func expectModel(t *testing.T, m api.Module, k int) {
	t.Helper()
	want := modelGraph(m.Funcs[k])
	if got := graph(t, m, k); !sameGraphs(got, want) {
		t.Fatalf("%s\n%d: graph\n%v, want\n%v", text(m), k, got, want)
	}
	wanted := modelLoops(m.Funcs[k])
	if got := loops(t, m, k); !sameLoops(got, wanted) {
		t.Fatalf("%s\n%d: loops\n%q, want\n%q", text(m), k, showLoops(got), showLoops(wanted))
	}
}

// expectDominance compares which blocks dominate which ones with the model.
func expectDominance(t *testing.T, m api.Module, k int) {
	t.Helper()
	n := len(m.Funcs[k].Blocks)
	for a := range n {
		for b := range n {
			if is := dominates(t, m, k, a, b); is != modelDominates(m.Funcs[k], a, b) {
				t.Fatalf("%s\n%d: Dominates(%d, %d) = %v", text(m), k, a, b, is)
			}
		}
	}
}

// P11.1, P11.3: all functions that have from 1 to 4 blocks.
func TestAllGraphs(t *testing.T) {
	count := 0
	for n := range 4 {
		allGraphs(n+1, func(m api.Module) {
			count++
			expectModel(t, m, 0)
		})
	}
	if count != 1+9+343+28561 {
		t.Errorf("%d graphs", count)
	}
}

// ways calls look with all ways to a block on which no block is twice.
func ways(f api.IFunc, to int, look func(way []int)) {
	var next func(way []int)
	next = func(way []int) {
		last := way[len(way)-1]
		if last == to {
			look(way)
			return
		}
		for _, b := range leads(f, last) {
			if !slices.Contains(way, b) {
				next(append(slices.Clip(way), b))
			}
		}
	}
	next([]int{0})
}

// onEachWay reports whether there is a way to each of two blocks, and a is on each one to b.
func onEachWay(f api.IFunc, a, b int) bool {
	is, reached := true, [2]bool{}
	ways(f, a, func([]int) { reached[0] = true })
	ways(f, b, func(way []int) {
		reached[1] = true
		is = is && slices.Contains(way, a)
	})
	return is && reached[0] && reached[1]
}

// P11.2: a block dominates another one if it is on each way to it, of which it is enough to go those that are in no block twice.
func TestDominatesOnWays(t *testing.T) {
	dice, yes := random(1), 0
	for range 1500 {
		m := randomGraph(dice, 1+dice.IntN(7))
		f := m.Funcs[0]
		for a := range f.Blocks {
			for b := range f.Blocks {
				want := onEachWay(f, a, b)
				if is := dominates(t, m, 0, a, b); is != want {
					t.Fatalf("%s\nDominates(%d, %d) = %v", text(m), a, b, is)
				}
				if want && a != b && a > 0 {
					yes++
				}
			}
		}
	}
	if yes < 1000 {
		t.Errorf("%d times", yes)
	}
}

// P11.1 to P11.3: graphs with more blocks, up to the most.
func TestManyBlocks(t *testing.T) {
	dice := random(2)
	seen := map[string]int{}
	for range 700 {
		m := renumbered(dice, randomGraph(dice, 2+dice.IntN(12)))
		expectModel(t, m, 0)
		expectDominance(t, m, 0)
		countSeen(seen, loops(t, m, 0))
	}
	for range 2 {
		m := renumbered(dice, randomGraph(dice, api.MaxIBlocks-dice.IntN(10)))
		expectModel(t, m, 0)
	}
	for _, what := range []string{"loops", "in another", "three in each other", "latches", "exits"} {
		if seen[what] < 40 {
			t.Errorf("%s: %d times", what, seen[what])
		}
	}
}

func countSeen(seen map[string]int, list []api.Loop) {
	for _, l := range list {
		seen["loops"]++
		seen["latches"] += min(1, len(l.Latches)/2)
		seen["exits"] += min(1, len(l.Exits)/2)
		if l.Parent >= 0 {
			seen["in another"]++
			if list[l.Parent].Parent >= 0 {
				seen["three in each other"]++
			}
		}
	}
}

// P11.1 to P11.4: functions with code.
func TestModules(t *testing.T) {
	inside, atEnds, before := 0, 0, 0
	modules(t, 800, func(m api.Module) {
		for k, f := range m.Funcs {
			expectModel(t, m, k)
			wantIn, wantOut := modelLive(f)
			in, out := live(t, m, k)
			if !sameLists(in, wantIn) || !sameLists(out, wantOut) {
				t.Fatalf("%s\n%d: live\n%v, %v, want\n%v, %v", text(m), k, in, out, wantIn, wantOut)
			}
			for b := range in {
				inside += len(in[b])
				atEnds += len(out[b])
			}
			before += len(in[0])
		}
	})
	if inside < 10_000 || atEnds < 10_000 || before < 2000 {
		t.Errorf("%d registers are live at the beginnings, %d at the ends, %d at those of the blocks 0", inside, atEnds, before)
	}
}
