package parts_test

import (
	"fmt"
	"math"
	"slices"
	"testing"

	"cupel/api"
	"cupel/ir"
	"cupel/parts"
)

func read(t *testing.T, text string) api.Module {
	t.Helper()
	m, at, e := ir.Parse(text)
	if e != api.OK {
		t.Fatalf("Parse(%q): error %d at %d", text, e, at)
	}
	return m
}

func TestIsLimit(t *testing.T) {
	for _, c := range []struct {
		x    api.Limit
		want bool
	}{
		{api.Limit{}, true},
		{api.Limit{Most: -1, Faults: []int{1, 2, 24}}, true},
		{api.Limit{Most: 7, Faults: []int{24}}, true},
		{api.Limit{Most: -2}, false},
		{api.Limit{Faults: []int{0}}, false},
		{api.Limit{Faults: []int{25}}, false},
		{api.Limit{Faults: []int{3, 3}}, false},
		{api.Limit{Faults: []int{3, 2}}, false},
	} {
		if is := parts.IsLimit(c.x); is != c.want {
			t.Errorf("%v: %v", c.x, is)
		}
	}
}

// The error of a module comes before ErrArg.
func TestArguments(t *testing.T) {
	m := read(t, code)
	long := read(t, code)
	long.Funcs[1].Regs = 301
	for _, c := range []struct {
		m    api.Module
		k    int
		x    api.Limit
		want api.Errno
	}{
		{m, 0, api.Limit{}, api.OK},
		{m, 1, api.Limit{Most: -1, Faults: []int{3, 24}}, api.OK},
		{m, 2, api.Limit{}, api.ErrArg},
		{m, -1, api.Limit{}, api.ErrArg},
		{m, 0, api.Limit{Most: -2}, api.ErrArg},
		{m, 1, api.Limit{Faults: []int{25}}, api.ErrArg},
		{long, 0, api.Limit{}, api.ErrLong},
		{long, 2, api.Limit{Most: -2}, api.ErrLong},
		{api.Module{}, 0, api.Limit{}, api.ErrArg},
	} {
		if e := parts.Arguments(c.m, c.k, c.x); e != c.want {
			t.Errorf("%d, %v: error %d, want %d", c.k, c.x, e, c.want)
		}
	}
}

// A record has as many applications as there may be at most.
func TestRecord(t *testing.T) {
	for most := -1; most < 6; most++ {
		r := parts.Record{Pass: api.PsFold, Func: 3, Most: most}
		var want []api.Applied
		for i := range 4 {
			may := most == -1 || i < most
			if added := r.Add(2, 5, i-1); added != may {
				t.Errorf("Most %d: application %d: %v", most, i, added)
			}
			if may {
				want = append(want, api.Applied{Pass: api.PsFold, Rule: 2, Func: 3, Block: 5, Index: i - 1})
			}
		}
		if !slices.Equal(r.List, want) {
			t.Errorf("Most %d: %v", most, r.List)
		}
	}
}

// Start asks the arguments first, then the check, and copies the module.
func TestStart(t *testing.T) {
	m := read(t, code)
	check := func(e api.Errno) func(api.Module, int) api.Errno {
		return func(asked api.Module, k int) api.Errno {
			if k != 1 || !ir.Same(asked, m) {
				t.Errorf("asked for %d of %v", k, asked)
			}
			return e
		}
	}
	c, e := parts.Start(m, 1, api.Limit{}, check(api.OK))
	if e != api.OK || !ir.Same(c, m) {
		t.Errorf("error %d: %v", e, c)
	}
	c.Funcs[1].Name = "h"
	if !ir.Same(m, read(t, code)) {
		t.Errorf("%v", m)
	}
	if c, e := parts.Start(m, 1, api.Limit{}, check(api.ErrDown)); e != api.ErrDown || len(c.Funcs) > 0 {
		t.Errorf("error %d: %v", e, c)
	}
	if c, e := parts.Start(m, 2, api.Limit{}, check(api.ErrDown)); e != api.ErrArg || len(c.Funcs) > 0 {
		t.Errorf("error %d: %v", e, c)
	}
}

// A bounded record has room for one application more than there may be.
func TestBounded(t *testing.T) {
	for _, c := range []struct {
		most, count int
		long        bool
	}{{-1, 4001, true}, {0, 0, false}, {7, 7, false}, {4000, 4000, false}, {4001, 4001, true}, {math.MaxInt, 4001, true}} {
		r, count := parts.Bounded(api.PsPeep, 3, c.most), 0
		for count < 5000 && r.Add(2, 1, count) {
			count++
		}
		if count != c.count || r.IsLong() != c.long || len(r.List) != count || count > 0 && r.List[0] != (api.Applied{Pass: api.PsPeep, Rule: 2, Func: 3, Block: 1}) {
			t.Errorf("Most %d: %d applications, long: %v", c.most, count, r.IsLong())
		}
	}
	r := parts.Bounded(api.PsPeep, 0, -1)
	for range 4000 {
		r.Add(1, 0, 0)
	}
	if r.IsLong() {
		t.Error("4000 applications are too many")
	}
}

// A sweep looks at each place until nothing changes there, also where instructions are left out, and there is another one if anything has changed.
func TestSweep(t *testing.T) {
	m := read(t, "main f; func f params 0 regs 0 { b0: print 2; print 9; print 0; jump b2; b1: print 1; return; b2: print 9; branch 1, b1, b1; }")
	f := &m.Funcs[0]
	var seen []string
	parts.Sweep(f, []int{2, 0}, func(b, i int) bool {
		seen = append(seen, fmt.Sprint(b, ":", i))
		block := &f.Blocks[b]
		switch {
		case i == len(block.Code):
			is := block.End.Op == api.TmBranch
			block.End = api.Term{Op: api.TmTrap}
			return is
		case block.Code[i].A.Imm == 9:
			block.Code = slices.Delete(block.Code, i, i+1)
			return true
		}
		block.Code[i].A.Imm--
		return block.Code[i].A.Imm >= 0
	})
	want := "[2:0 2:0 2:0 0:0 0:0 0:0 0:1 0:1 0:2 2:0 0:0 0:1 0:2]"
	if got := fmt.Sprint(seen); got != want {
		t.Errorf("%s, want %s", got, want)
	}
	if ops := []int{f.Blocks[0].End.Op, f.Blocks[1].End.Op, f.Blocks[2].End.Op}; !slices.Equal(ops, []int{api.TmTrap, api.TmReturn, api.TmTrap}) {
		t.Errorf("ends %v", ops)
	}
}

const code = `cell c = 1; array x[2]; main f; func f params 0 regs 3 { global x; b0: r0 = 5; r0 = add r1, r2; check r0, r1; r0 = load a0[r1]; store a0[r1] = r2; r0 = get c0; put c0 = r1; print r1; branch r1, b1, b1; b1: r0 = phi b0: r1; jump b2; b2: r0 = call g(r2, 4, r1); trap; }
func g params 3 regs 3 result { b0: branch r0, b1, b2; b1: return r1; b2: return r2; }`

// All operands in order, each of which can be changed.
func TestOperands(t *testing.T) {
	m := read(t, code)
	var seen []string
	for _, f := range m.Funcs {
		for b := range f.Blocks {
			for i := range f.Blocks[b].Code {
				x := &f.Blocks[b].Code[i]
				list := ""
				for _, o := range parts.Operands(x) {
					list += fmt.Sprint(o.Reg, " ")
					o.Reg, o.Imm = 0, 0
				}
				seen = append(seen, list)
			}
			list := "end "
			for _, o := range parts.EndOperands(&f.Blocks[b].End, f.Result) {
				list += fmt.Sprint(o.Reg, " ")
				o.Reg = 0
			}
			seen = append(seen, list+fmt.Sprint(parts.Targets(f.Blocks[b].End)))
		}
	}
	want := "[-1  1 2  0 1  1  1 2   1  1  end 1 [1] 1  end [2] 2 -1 1  end [] end 0 [1 2] end 1 [] end 2 []]"
	if got := fmt.Sprint(seen); got != want {
		t.Errorf("%q, want %q", got, want)
	}
	changed := `cell c = 1; array x[2]; main f; func f params 0 regs 3 { global x; b0: r0 = r0; r0 = add r0, r0; check r0, r0; r0 = load a0[r0]; store a0[r0] = r0; r0 = get c0; put c0 = r0; print r0; branch r0, b1, b1; b1: r0 = phi b0: r0; jump b2; b2: r0 = call g(r0, r0, r0); trap; }
func g params 3 regs 3 result { b0: branch r0, b1, b2; b1: return r0; b2: return r0; }`
	if !ir.Same(m, read(t, changed)) {
		t.Errorf("%v", m)
	}
}

// A copy does not change with what it is a copy of.
func TestCopy(t *testing.T) {
	m := read(t, code)
	c := parts.Copy(m)
	if !ir.Same(c, m) {
		t.Fatalf("%v", c)
	}
	f := m.Funcs[0]
	f.Blocks[0].Code[0].To, f.Blocks[1].Code[0].Args[0].Reg, f.Blocks[1].Code[0].From[0], f.Blocks[2].End.Op = 1, 2, 2, api.TmReturn
	f.Arrays[0].Global, m.Cells[0].Init, m.Arrays[0].Len, m.Funcs[1].Name = 1, 2, 3, "h"
	if !ir.Same(c, read(t, code)) {
		t.Errorf("%v", c)
	}
}

// A copy of a function does not change with what it is a copy of.
func TestCopyFunc(t *testing.T) {
	m := read(t, code)
	f := parts.CopyFunc(m.Funcs[0])
	m.Funcs[0].Blocks[0].Code[0].To, m.Funcs[0].Arrays[0].Global, m.Funcs[0].Blocks[1].Code[0].Args[0].Reg = 2, 1, 2
	m.Funcs[0] = f
	if !ir.Same(m, read(t, code)) {
		t.Errorf("%v", f)
	}
}

// What functions have is counted in all their blocks.
func TestCounts(t *testing.T) {
	m := read(t, code)
	for k, want := range []int{10, 0} {
		if n := parts.Instructions(m.Funcs[k]); n != want {
			t.Errorf("%d instructions of %d, want %d", n, k, want)
		}
		if is := parts.HasPhi(m.Funcs[k]); is != (k == 0) {
			t.Errorf("%d has a phi: %v", k, is)
		}
	}
}

// Blocks are put in another order, others are left out.
func TestArrange(t *testing.T) {
	const head = "main f; func f params 0 regs 1 { "
	const body = "b0: branch 1, b2, b1; b1: jump b4; b2: branch 2, b4, b1; b3: jump b4; b4: r0 = phi b1: 1, b2: 2, b3: 3; r0 = phi b1: 4, b2: 5, b3: 6; print r0; return; }"
	for _, c := range []struct {
		order []int
		want  string
	}{
		{[]int{0, 1, 2, 3, 4}, body},
		{[]int{0, 1, 2, 4}, "b0: branch 1, b2, b1; b1: jump b3; b2: branch 2, b3, b1; b3: r0 = phi b1: 1, b2: 2; r0 = phi b1: 4, b2: 5; print r0; return; }"},
		{[]int{0, 4, 2, 3, 1}, "b0: branch 1, b2, b4; b1: r0 = phi b2: 2, b3: 3, b4: 1; r0 = phi b2: 5, b3: 6, b4: 4; print r0; return; b2: branch 2, b1, b4; b3: jump b1; b4: jump b1; }"},
	} {
		m := read(t, head+body)
		parts.Arrange(&m.Funcs[0], c.order)
		if !ir.Same(m, read(t, head+c.want)) {
			t.Errorf("%v: %v", c.order, m)
		}
	}
	if n := parts.Phis(read(t, head+body).Funcs[0].Blocks[4]); n != 2 {
		t.Errorf("%d phis", n)
	}
}
