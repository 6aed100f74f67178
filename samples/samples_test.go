package samples_test

import (
	"fmt"
	"slices"
	"strings"
	"testing"

	"cupel/api"
	"cupel/flow"
	"cupel/fold"
	"cupel/ir"
	"cupel/parts"
	"cupel/samples"
)

// witness keeps what a test is told.
type witness struct{ told []string }

func (w *witness) Helper() {}

func (w *witness) Errorf(format string, args ...any) {
	w.told = append(w.told, fmt.Sprintf(format, args...))
}

func (w *witness) Fatalf(format string, args ...any) {
	w.Errorf(format, args...)
	panic(w)
}

// told returns what a test is told by a function.
func told(f func(t samples.T)) (list []string) {
	var w witness
	defer func() {
		if recover() != nil {
			list = w.told
		}
	}()
	f(&w)
	return w.told
}

// Functions are the same for the same seed, different for others, and have all that there is: instructions, ends, loops, blocks that are not reached.
func TestFunctions(t *testing.T) {
	ops, kinds, ends := map[int]int{}, map[int]int{}, map[int]int{}
	loops, lost, turn := 0, 0, uint64(0)
	var last api.Module
	samples.Functions(t, 300, 20, func(m api.Module) {
		f := m.Funcs[0]
		if want := 1 + int(turn%20); len(f.Blocks) != want {
			t.Fatalf("%d blocks, want %d", len(f.Blocks), want)
		}
		if !ir.Same(m, samples.Function(t, turn, len(f.Blocks))) || ir.Same(m, last) {
			t.Fatalf("seed %d: %s", turn, samples.Text(m))
		}
		turn, last = turn+1, m
		for _, block := range f.Blocks {
			ends[block.End.Op]++
			for _, x := range block.Code {
				ops[x.Op]++
				kinds[x.Kind]++
			}
		}
		list, _ := flow.Loops(m, 0)
		g, _ := flow.Make(m, 0)
		loops, lost = loops+len(list), lost+len(f.Blocks)-len(g.Order)
	})
	for op := api.IxCopy; op <= api.IxPhi; op++ {
		if ops[op] < 100 {
			t.Errorf("instructions: %v", ops)
		}
	}
	for kind := api.IbAdd; kind <= api.IbLe; kind++ {
		if kinds[kind] < 50 {
			t.Errorf("operations: %v", kinds)
		}
	}
	for end := api.TmJump; end <= api.TmTrap; end++ {
		if ends[end] < 20 {
			t.Errorf("ends: %v", ends)
		}
	}
	if loops < 100 || lost < 100 {
		t.Errorf("%d loops, %d blocks that are not reached", loops, lost)
	}
}

// Many operations, checks and branches are of what others have as their results.
func TestChains(t *testing.T) {
	counts := map[string]int{}
	samples.Functions(t, 600, 14, func(m api.Module) {
		made := map[int]api.Instr{}
		for _, block := range m.Funcs[0].Blocks {
			for _, x := range block.Code {
				if x.Op == api.IxBin {
					made[x.To] = x
				}
			}
		}
		isBy := func(x api.Instr, kinds ...int) bool { return slices.Contains(kinds, x.Kind) && x.B.Reg < 0 }
		for _, block := range m.Funcs[0].Blocks {
			for _, x := range block.Code {
				y := made[x.A.Reg]
				switch {
				case x.Op == api.IxBin && isBy(x, y.Kind) && isBy(y, y.Kind):
					counts["the same by constants"]++
				case x.Op == api.IxBin && isBy(x, api.IbEq, api.IbNe) && y.Kind >= api.IbEq:
					counts["comparisons"]++
				case x.Op == api.IxCheck && isBy(y, api.IbAnd):
					counts["masks"]++
				case x.Op == api.IxPrint && y.Op == api.IxBin:
					counts["prints"]++
				}
			}
			if y := made[block.End.A.Reg]; block.End.Op == api.TmBranch && isBy(y, api.IbEq, api.IbNe) {
				counts["branches"]++
			}
		}
	})
	for _, what := range []string{"the same by constants", "comparisons", "masks", "prints", "branches"} {
		if counts[what] < 15 {
			t.Errorf("%v", counts)
		}
	}
}

// A listing has the lines of a function, and is read again with those that have changed.
func TestListing(t *testing.T) {
	m := samples.Of(t, "1 regs 3", "b0: r1 = add r0, -1; store a0[r1] = 2; branch r1, b1, b1; b1: r2 = phi b0: r1; call g(r2, 1; a0); return;")
	for k := range m.Funcs {
		if made, e := samples.ListingOf(m, k).Module(); e != api.OK || !ir.Same(made, m) {
			t.Errorf("%d: error %d: %s", k, e, samples.Text(made))
		}
	}
	l := samples.ListingOf(m, 0)
	if want := []string{"local[2];", "local[3] small;", "global x;", "global y;"}; !slices.Equal(l.Decls, want) {
		t.Errorf("%q", l.Decls)
	}
	var words []string
	for _, block := range l.Blocks {
		for _, line := range block {
			words = append(words, strings.Join(line.Words, "|"))
		}
	}
	if want := []string{"r1|add|r0|-1", "store|a0|r1|2", "branch|r1|b1|b1", "r2|phi|b0|r1", "call|g|r2|1|a0", "return"}; !slices.Equal(words, want) {
		t.Errorf("%q", words)
	}
	l.Blocks[0][1], l.Blocks[0][2] = samples.LineOf("print 7;"), samples.LineOf("jump b1;")
	want := samples.Of(t, "1 regs 3", "b0: r1 = add r0, -1; print 7; jump b1; b1: r2 = phi b0: r1; call g(r2, 1; a0); return;")
	if made, e := l.Module(); e != api.OK || !ir.Same(made, want) {
		t.Errorf("error %d: %s", e, samples.Text(made))
	}
	name := samples.ListingOf(want, 0)
	if a, b := name.AddRegister(), name.AddRegister(); a != "r3" || b != "r4" {
		t.Errorf("registers %s, %s", a, b)
	}
	if made, e := name.Module(); e != api.OK || !ir.Same(made, samples.Of(t, "1 regs 5", "b0: r1 = add r0, -1; print 7; jump b1; b1: r2 = phi b0: r1; call g(r2, 1; a0); return;")) {
		t.Errorf("error %d: %s", e, samples.Text(made))
	}
	if a, b := name.AddDecl("local[1];"), name.AddDecl("param[2];"); a != "a4" || b != "a5" || name.Decls[5] != "param[2];" {
		t.Errorf("arrays %s, %s: %q", a, b, name.Decls)
	}
	many, e := name.Module()
	if e != api.ErrArg { // nothing is given for the parameter
		t.Errorf("error %d: %s", e, samples.Text(many))
	}
	l.Blocks[1][0] = samples.LineOf("prints 7;")
	if _, e := l.Module(); e != api.ErrForm {
		t.Errorf("error %d", e)
	}
}

// Modules of calls are valid and without phis, the same for the same seed, and have all that there is: instructions, ends, arrays, long functions, calls of functions that call others; runs end in each way.
func TestCallers(t *testing.T) {
	counts := map[string]int{}
	var last api.Module
	turn := uint64(0)
	samples.Callers(400, func(m api.Module) {
		if e := ir.Check(m); e != api.OK || m.Main != 1 || !ir.Same(m, samples.Calls(turn)) || ir.Same(m, last) {
			t.Fatalf("seed %d: error %d: %+v", turn, e, m)
		}
		turn, last = turn+1, m
		counts[fmt.Sprint("run ", samples.Run(t, m, 700).End)]++
		for k, f := range m.Funcs {
			for _, a := range f.Arrays {
				counts[fmt.Sprint("array ", a.Kind)]++
			}
			if parts.Instructions(f) > api.MaxInline {
				counts["long"]++
			}
			if parts.HasPhi(f) || f.Regs > 12 {
				t.Fatalf("seed %d: %s", turn-1, samples.Text(m))
			}
			for _, block := range f.Blocks {
				counts[fmt.Sprint("end ", block.End.Op)]++
				for _, x := range block.Code {
					counts[fmt.Sprint("instr ", x.Op)]++
					if x.Op == api.IxCall && k > 1 {
						counts["calls in each other"]++
					}
				}
			}
		}
	})
	want := []string{"long", "calls in each other"}
	for op := api.IxCopy; op < api.IxPhi; op++ {
		want = append(want, fmt.Sprint("instr ", op))
	}
	for end := api.TmJump; end <= api.TmTrap; end++ {
		want = append(want, fmt.Sprint("end ", end))
	}
	for _, end := range []int{api.EnDone, api.EnTrap, api.EnSteps} {
		want = append(want, fmt.Sprint("run ", end))
	}
	for kind := api.AyLocal; kind <= api.AyGlobal; kind++ {
		want = append(want, fmt.Sprint("array ", kind))
	}
	for _, what := range want {
		if counts[what] < 60 {
			t.Errorf("%s: %v", what, counts)
		}
	}
}

// A pass may be for functions without phis.
func TestForm(t *testing.T) {
	plain, form := samples.Pass{Form: samples.NoPhi}, samples.Pass{}
	for _, c := range []struct {
		body                string
		wantPlain, wantForm api.Errno
	}{
		{"b0: r0 = 1; r0 = r0; return;", api.OK, api.ErrDown},
		{"b0: jump b1; b1: r0 = phi b0: 1; return;", api.ErrDown, api.OK},
		{"b0: jump b1; b1: r0 = phi b0: r0; return;", api.ErrDown, api.ErrDown},
		{"b0: print 3; return; b1: print r0; return;", api.OK, api.OK},
	} {
		m := samples.Of(t, "0 regs 1", c.body)
		if a, b := plain.CheckForm(m, 0), form.CheckForm(m, 0); a != c.wantPlain || b != c.wantForm {
			t.Errorf("%s: errors %d, %d", c.body, a, b)
		}
		m.Funcs[2].Blocks = nil
		if a, b := plain.CheckForm(m, 0), form.CheckForm(m, 0); a != api.ErrArg || b != api.ErrArg {
			t.Errorf("%s: errors %d, %d of a module that is not valid", c.body, a, b)
		}
	}
}

func TestLowered(t *testing.T) {
	count := 0
	samples.Lowered(40, func(m api.Module) {
		count++
		for _, f := range m.Funcs {
			if parts.HasPhi(f) {
				t.Errorf("a phi: %s", samples.Text(m))
			}
		}
	})
	if count < 30 {
		t.Errorf("%d programs", count)
	}
}

func TestPrograms(t *testing.T) {
	count, phis := 0, 0
	samples.Programs(40, func(m api.Module) {
		count++
		for _, f := range m.Funcs {
			for _, block := range f.Blocks {
				phis += parts.Phis(block)
			}
		}
	})
	if count < 30 || phis < 100 {
		t.Errorf("%d programs, %d phis", count, phis)
	}
}

const (
	before = "b0: r0 = 2; r1 = add r0, 1; print r1; return;"
	after  = "b0: r0 = 2; r1 = add 2, 1; print 3; return;"
	head   = "0 regs 2"
)

// steps are the bodies after 0, 1, 2 applications.
var steps = []string{before, strings.Replace(after, "3", "r1", 1), after}

// two is a text of two functions, which the parts are for.
const two = "main f; func f params 0 regs 1 { b0: r0 = 7; print %s; return; } func g params 0 regs 2 { b0: r1 = %s; return; }"

var first, second = samples.Part{Before: "r0", After: "7", Made: "b0:1"}, samples.Part{Before: "8; print r1", After: "8; print 8", Made: "b0:1"}

// A pass is compared with what it has to make, and applications with theirs.
func TestPass(t *testing.T) {
	p := samples.Pass{Number: api.PsFold, Run: fold.Run, Faults: []int{api.FtEqualLess, api.FtFirstOnly}, Model: fold.Run}
	row := samples.Row{What: "a row", Head: head, Before: before, After: after, Made: "b0:1 b0:2"}
	m := samples.Of(t, head, before)
	wrongText, wrongList := row, row
	wrongText.After, wrongList.Made = before, "b0:1 b0:2/2"
	for _, c := range []struct {
		what string
		ask  func(t samples.T)
		want int // how many things are wrong
	}{
		{"a row", func(t samples.T) { p.ExpectSound(t, row) }, 0},
		{"another function", func(t samples.T) { p.ExpectSound(t, wrongText) }, 1},
		{"other applications", func(t samples.T) { p.Expect(t, samples.All(), wrongList) }, 1},
		{"rows", func(t samples.T) { samples.ExpectRows(t, p, samples.All(), []samples.Row{row, wrongText, wrongList}) }, 2},
		{"rows of runs", func(t samples.T) { samples.ExpectSoundRows(t, p, []samples.Row{row, wrongText, wrongList}) }, 2},
		{"steps", func(t samples.T) { p.ExpectSteps(t, head, steps, row.Made) }, 0},
		{"a wrong step", func(t samples.T) { p.ExpectSteps(t, head, []string{before, before, after}, row.Made) }, 1},
		{"a wrong application", func(t samples.T) { p.ExpectSteps(t, head, steps, "b0:1/2 b0:2") }, 10},
		{"steps with heads", func(t samples.T) {
			p.ExpectSteps(t, "0 regs 2 / 0 regs 2 / 0 regs 2", steps, row.Made)
		}, 0},
		{"a step with another head", func(t samples.T) { p.ExpectSteps(t, "0 regs 2 / 0 regs 3 / 0 regs 2", steps, row.Made) }, 1},
		{"the last head for all other steps", func(t samples.T) { p.ExpectSteps(t, "0 regs 2 / 0 regs 3", steps, row.Made) }, 10},
		{"one module of another one", func(t samples.T) {
			p.ExpectMade(t, "", m, samples.Of(t, head, after), 0, samples.All(), row.Made)
		}, 0},
		{"a wrong module, and wrong applications", func(t samples.T) { p.ExpectMade(t, "", m, m, 0, samples.All(), "b0:1") }, 2},
		{"a step too few", func(t samples.T) { p.ExpectSteps(t, head, steps[:2], row.Made) }, 16},
		{"an error", func(t samples.T) { p.ExpectError(t, m, 9, samples.All(), api.ErrArg) }, 0},
		{"another error", func(t samples.T) { p.ExpectError(t, m, 9, samples.All(), api.ErrDown) }, 1},
		{"no error", func(t samples.T) { p.ExpectError(t, m, 0, samples.All(), api.OK) }, 1},
		{"an error where none is expected", func(t samples.T) { p.Made(t, m, 9, samples.All()) }, 1},
		{"functions", func(t samples.T) { p.ExpectEach(t, two, first, second) }, 0},
		{"another function of them", func(t samples.T) { p.ExpectEach(t, two, first, first) }, 1},
		{"other applications of functions", func(t samples.T) {
			p.ExpectEach(t, two, samples.Part{Before: "r0", After: "7", Made: "b0:1/2"}, second)
		}, 1},
		{"a model", func(t samples.T) { p.ExpectModel(t, m, 0, samples.All()) }, 0},
		{"a model of long functions", func(t samples.T) { p.ExpectModelOfLong(t, 70) }, 0},
		{"a model of all functions", func(t samples.T) {
			if n := p.ExpectModelOfAll(t, func(look func(m api.Module)) { look(m); look(m) }); n != 16 {
				t.Errorf("%d applications", n)
			}
		}, 0},
		{"a model of functions", func(t samples.T) {
			c := p.ExpectModelIn(t, func(look func(m api.Module)) { look(m); look(m) })
			c.ExpectEnough(t, 1, 16, 0)
		}, 0},
		{"the same run", func(t samples.T) { p.ExpectKept(t, m, samples.Of(t, head, after)) }, 0},
		{"another run", func(t samples.T) {
			p.ExpectKept(t, m, samples.Of(t, head, strings.Replace(after, "3", "4", 1)))
		}, 1},
		{"another end", func(t samples.T) {
			p.ExpectKept(t, m, samples.Of(t, head, strings.Replace(before, "return", "trap", 1)))
		}, 1},
		{"a run that is cut short", func(t samples.T) { p.ExpectKept(t, m, samples.Of(t, head, "b0: jump b1; b1: jump b1;")) }, 1},
		{"no text", func(t samples.T) { samples.Read(t, "main") }, 1},
	} {
		if list := told(c.ask); len(list) != c.want {
			t.Errorf("%s: %q", c.what, list)
		}
	}
	other := p
	other.Model = func(m api.Module, k int, x api.Limit) (api.Module, []api.Applied, api.Errno) { return m, nil, api.OK }
	for _, ask := range []func(t samples.T){
		func(t samples.T) { other.ExpectModel(t, m, 0, samples.All()) },
		func(t samples.T) { other.ExpectModelOfLong(t, 70) },
	} {
		if list := told(ask); len(list) != 1 {
			t.Errorf("another model: %q", list)
		}
	}
}

// A pass may make a function that gets another head, that needs more steps, or none at all.
func TestGrowingPass(t *testing.T) {
	grows := func(m api.Module, k int, x api.Limit) (api.Module, []api.Applied, api.Errno) {
		made := parts.Copy(m)
		f := &made.Funcs[k]
		if f.Regs++; f.Regs > 5 {
			return api.Module{}, nil, api.ErrLong
		}
		f.Blocks[0].Code = slices.Insert(f.Blocks[0].Code, 0, slices.Repeat([]api.Instr{{Op: api.IxPut, To: -1, A: api.Opd{Reg: -1, Imm: 5}}}, 9)...)
		return made, nil, api.OK
	}
	p := samples.Pass{Run: grows, Model: grows, Steps: func(before int) int { return 10 * before }}
	hurried, fails, never := p, p, p
	hurried.Steps = nil
	fails.Run = func(api.Module, int, api.Limit) (api.Module, []api.Applied, api.Errno) {
		return api.Module{}, nil, api.ErrLong
	}
	never.Model = fails.Run
	row := samples.Row{Head: "0 regs 2 / 0 regs 3", Before: before, After: strings.Replace(before, "b0:", "b0: "+strings.Repeat("put c0 = 5; ", 9), 1)}
	oneHead := row
	oneHead.Head = head
	small, great := samples.Of(t, head, before), samples.Of(t, "0 regs 5", before)
	for _, c := range []struct {
		what string
		ask  func(t samples.T)
		want int // how many things are wrong
	}{
		{"two heads", func(t samples.T) { p.ExpectSound(t, row) }, 0},
		{"one head", func(t samples.T) { p.ExpectSound(t, oneHead) }, 1},
		{"too few steps", func(t samples.T) { hurried.ExpectSound(t, row) }, 1},
		{"another run", func(t samples.T) { p.ExpectKept(t, small, samples.Of(t, head, "b0: trap;")) }, 1},
		{"the same", func(t samples.T) { p.ExpectModel(t, small, 0, samples.All()) }, 0},
		{"the same error", func(t samples.T) { p.ExpectModel(t, great, 0, samples.All()) }, 0},
		{"an error of the pass", func(t samples.T) { fails.ExpectModel(t, small, 0, samples.All()) }, 1},
		{"an error of the model", func(t samples.T) { never.ExpectModel(t, small, 0, samples.All()) }, 1},
	} {
		if list := told(c.ask); len(list) != c.want {
			t.Errorf("%s: %q", c.what, list)
		}
	}
}

// Counts are enough if each of them is, and if nothing changes without faults.
func TestEnough(t *testing.T) {
	c := samples.Count{Rules: map[int]int{1: 5, 2: 6, 3: 7}, Changed: map[int]int{0: 0, 1: 2, 2: 3}}
	for _, a := range []struct{ last, applied, changed, want int }{
		{3, 5, 2, 0}, {3, 6, 2, 1}, {3, 8, 2, 3}, {4, 5, 2, 1}, {2, 7, 2, 2}, {3, 5, 3, 1}, {3, 5, 4, 2}, {0, 9, 1, 0},
	} {
		if list := told(func(t samples.T) { c.ExpectEnough(t, a.last, a.applied, a.changed) }); len(list) != a.want {
			t.Errorf("%v: %q", a, list)
		}
	}
	c.Changed[0] = 1
	if list := told(func(t samples.T) { c.ExpectEnough(t, 3, 5, 2) }); len(list) != 1 {
		t.Errorf("%q", list)
	}
}

func TestFaultLists(t *testing.T) {
	p := samples.Pass{Faults: []int{3, 5, 9}}
	want := [][]int{nil, {3}, {5}, {3, 5}, {9}, {3, 9}, {5, 9}, {3, 5, 9}}
	if got := p.FaultLists(); !slices.EqualFunc(got, want, slices.Equal) {
		t.Errorf("%v", got)
	}
}

func TestApplied(t *testing.T) {
	p := samples.Pass{Number: api.PsPeep}
	want := []api.Applied{{Pass: api.PsPeep, Rule: 1, Func: 4, Block: 2, Index: 13}, {Pass: api.PsPeep, Rule: 17, Func: 4, Block: 10, Index: -1}, {Pass: api.PsPeep, Rule: 2, Func: 4}}
	if got := p.Applied(4, "b2:13 b10:end/17 b0:0/2"); !slices.Equal(got, want) {
		t.Errorf("%v", got)
	}
}
