package pipeline_test

import (
	"slices"
	"testing"

	"cupel/api"
	"cupel/samples"
)

// step is an instance more: its pass, its applications, and what the function is then.
type step struct {
	pass        int
	made, after string
}

// expectSteps wants what steps say of the function f, alone in its module: of each number of first instances, and of all.
func expectSteps(t *testing.T, level int, before string, steps ...step) {
	t.Helper()
	const head = "cell c = 5; main f; func f params 0 regs "
	m, want := samples.Read(t, head+before), before
	var lists [][]api.Applied
	for first := range len(steps) + 1 {
		if first > 0 {
			last := steps[first-1]
			want = last.after
			lists = append(lists, samples.Pass{Number: last.pass}.Applied(0, last.made))
		}
		r := run(t, m, level, first, samples.All())
		if samples.Text(r.m) != samples.Text(samples.Read(t, head+want)) || !slices.EqualFunc(r.lists, lists, slices.Equal) {
			t.Errorf("the first %d: %v\n%s", first, r.lists, samples.Text(r.m))
		}
	}
	if instances(t, m, level) != len(steps) || !same(run(t, m, level, -1, samples.All()), run(t, m, level, len(steps), samples.All())) {
		t.Error("-1 is not all")
	}
}

// P19.3: the instances one after the other; what is left in the form is closed, and what is out of it already stays as it is.
func TestSteps(t *testing.T) {
	expectSteps(t, 1, "4 { b0: r0 = 3; r1 = get c0; branch r1, b1, b2; b1: r2 = add r0, 4; jump b3; b2: r2 = r1; jump b3; b3: print r2; return; }",
		step{api.PsInto, "b0:end/0", "5 { b0: r0 = 3; r1 = get c0; branch r1, b1, b2; b1: r2 = add r0, 4; r4 = r2; jump b3; b2: r3 = r1; r4 = r3; jump b3; b3: print r4; return; }"},
		step{api.PsFold, "b1:0 b3:0", "5 { b0: r0 = 3; r1 = get c0; branch r1, b1, b2; b1: r2 = add 3, 4; r4 = 7; jump b3; b2: r3 = r1; r4 = r3; jump b3; b3: print r4; return; }"},
		step{api.PsDead, "b1:0 b0:0", "5 { b0: r1 = get c0; branch r1, b1, b2; b1: r4 = 7; jump b3; b2: r3 = r1; r4 = r3; jump b3; b3: print r4; return; }"},
		step{api.PsOut, "b0:end/0", "5 { b0: r1 = get c0; branch r1, b1, b2; b1: r4 = 7; jump b3; b2: r3 = r1; r4 = r3; jump b3; b3: print r4; return; }"},
		step{api.PsTidy, "b0:end/0", "3 { b0: r0 = get c0; branch r0, b1, b3; b1: r1 = 7; jump b2; b2: print r1; return; b3: r2 = r0; r1 = r2; jump b2; }"},
	)
}

// P19.3: at the level 3, with calls: each pass goes through all functions before the next one, and also through those that are called no more.
func TestFunctions(t *testing.T) {
	before := "main f; func f params 0 regs 2 { b0: r0 = call g(3); print r0; return; } func g params 1 regs 2 result { b0: r1 = mul r0, 4; return r1; }"
	m := samples.Read(t, before)
	inlined := "func f params 0 regs 4 { b0: r2 = 3; r3 = 0; jump b1; b1: r3 = mul r2, 4; r0 = r3; jump b2; b2: print r0; return; } "
	for _, c := range []struct {
		first   int
		f, g    string
		pass, k int
	}{
		{1, inlined, "func g params 1 regs 2 result { b0: r1 = mul r0, 4; return r1; }", api.PsInline, 0},
		{2, inlined, "func g params 1 regs 2 result { b0: r1 = mul r0, 4; return r1; }", api.PsInline, 1},
		{3, "func f params 0 regs 4 { b0: r0 = 3; r1 = 0; jump b1; b1: r2 = mul r0, 4; r3 = r2; jump b2; b2: print r3; return; } ", "func g params 1 regs 2 result { b0: r1 = mul r0, 4; return r1; }", api.PsInto, 0},
		{7, "func f params 0 regs 4 { b0: r0 = 3; r1 = 0; jump b1; b1: r2 = mul 3, 4; r3 = 12; jump b2; b2: print 12; return; } ", "func g params 1 regs 2 result { b0: r1 = mul r0, 4; return r1; }", api.PsCopies, 0},
		{9, "func f params 0 regs 4 { b0: r0 = 3; r1 = 0; jump b1; b1: r2 = 12; r3 = 12; jump b2; b2: print 12; return; } ", "func g params 1 regs 2 result { b0: r1 = mul r0, 4; return r1; }", api.PsPeep, 0},
		{10, "func f params 0 regs 4 { b0: r0 = 3; r1 = 0; jump b1; b1: r2 = 12; r3 = 12; jump b2; b2: print 12; return; } ", "func g params 1 regs 2 result { b0: r1 = shl r0, 2; return r1; }", api.PsPeep, 1},
		{24, "func f params 0 regs 0 { b0: print 12; return; } ", "func g params 1 regs 2 result { b0: r1 = shl r0, 2; return r1; }", api.PsTidy, 1},
	} {
		r := run(t, m, 3, c.first, samples.All())
		if want := samples.Text(samples.Read(t, "main f; "+c.f+c.g)); samples.Text(r.m) != want {
			t.Errorf("the first %d:\n%s\nwant\n%s", c.first, samples.Text(r.m), want)
		}
		if len(r.lists) != c.first {
			t.Fatalf("the first %d: %v", c.first, r.lists)
		}
		for _, a := range r.lists[c.first-1] {
			if a.Pass != c.pass || a.Func != c.k {
				t.Errorf("the first %d: %v", c.first, a)
			}
		}
	}
}

// P19.3: the example of one function that gets into the form, and out of it again.
func TestFirst(t *testing.T) {
	const f = "{ b0: jump b1; b1: r0 = add r0, 1; branch r0, b1, b2; b2: return; } "
	const closed = "{ b0: r0 = 0; jump b1; b1: r1 = add r0, 1; branch r1, b3, b2; b2: return; b3: r0 = r1; jump b1; } "
	m := samples.Read(t, "main f; func f params 0 regs 1 "+f+"func g params 0 regs 1 "+f)
	for level := 1; level < 3; level++ {
		for first, want := range []string{
			"main f; func f params 0 regs 1 " + f + "func g params 0 regs 1 " + f,
			"main f; func f params 0 regs 2 " + closed + "func g params 0 regs 1 " + f,
			"main f; func f params 0 regs 2 " + closed + "func g params 0 regs 2 " + closed,
		} {
			if r := run(t, m, level, first, samples.All()); samples.Text(r.m) != samples.Text(samples.Read(t, want)) || len(r.lists) != first {
				t.Errorf("the level %d, the first %d: %v\n%s", level, first, r.lists, samples.Text(r.m))
			}
		}
	}
}

// P19.3: the limit is that of the last instance alone.
func TestLast(t *testing.T) {
	m := samples.Read(t, "cell c = 5; main f; func f params 0 regs 4 { b0: r0 = 1; r1 = add r0, 2; r2 = get c0; r3 = add r2, r0; print r3; return; }")
	for _, c := range []struct{ first, most, want int }{
		{1, 0, 0}, {1, 1, 1}, {1, 2, 1}, {2, 0, 0}, {2, 1, 1}, {2, 2, 2}, {2, 3, 2}, {2, -1, 2}, {3, 0, 0}, {3, 1, 1}, {3, 2, 2}, {3, 3, 2}, {4, 0, 0}, {4, 7, 1}, {5, 0, 0}, {5, 1, 1}, {-1, 0, 0}, {-1, 1, 1},
	} {
		r := run(t, m, 1, c.first, api.Limit{Most: c.most})
		full := run(t, m, 1, c.first, samples.All())
		n := len(r.lists) - 1
		if n+1 != len(full.lists) || len(r.lists[n]) != c.want || !slices.Equal(r.lists[n], full.lists[n][:c.want]) || !slices.EqualFunc(r.lists[:n], full.lists[:n], slices.Equal) {
			t.Errorf("the first %d, Most %d: %v", c.first, c.most, r.lists)
		}
		if c.want == 0 && samples.Text(r.m) != samples.Text(run(t, m, 1, n, samples.All()).m) {
			t.Errorf("the first %d, Most %d:\n%s", c.first, c.most, samples.Text(r.m))
		}
	}
}

// witness is a fault, and a level at which a module shows it.
type witness struct {
	fault, level int
	text         string
}

// witnesses are those of chapter 25.
func witnesses() []witness {
	return []witness{
		{api.FtUndefined, 1, "main f; func f params 0 regs 1 { b0: print r0; return; }"},
		{api.FtOneByOne, 2, "main f; func f params 0 regs 4 { b0: r0 = 1; r1 = 2; jump b1; b1: print r0; r2 = r0; r0 = r1; r1 = r2; r3 = add r3, 1; r2 = lt r3, 3; branch r2, b1, b2; b2: return; }"},
		{api.FtEqualLess, 1, "main f; func f params 0 regs 1 { b0: r0 = lt 5, 5; print r0; return; }"},
		{api.FtFirstOnly, 1, "cell c = 1; main f; func f params 0 regs 2 { b0: r0 = get c0; r1 = 1; branch r0, b1, b2; b1: r1 = 2; jump b2; b2: print r1; return; }"},
		{api.FtMinus, 2, "cell c = 5; cell d = 3; main f; func f params 0 regs 4 { b0: r0 = get c0; r1 = get c1; r2 = sub r0, r1; r3 = sub r1, r0; print r2; print r3; return; }"},
		{api.FtOverStore, 2, "cell c = 0; main f; func f params 0 regs 3 { local [2]; b0: r0 = get c0; r1 = load a0[0]; store a0[r0] = 7; r2 = load a0[0]; print r1; print r2; return; }"},
		{api.FtOverCall, 2, "cell c = 1; main f; func f params 0 regs 2 { b0: r0 = get c0; call g(); r1 = get c0; print r0; print r1; return; } func g params 0 regs 0 { b0: put c0 = 5; return; }"},
		{api.FtDivision, 1, "cell c = 0; main f; func f params 0 regs 2 { b0: r0 = get c0; r1 = div 5, r0; print 1; return; }"},
		{api.FtOverGet, 1, "cell c = 0; main f; func f params 0 regs 1 { b0: put c0 = 1; r0 = get c0; put c0 = 2; print r0; return; }"},
		{api.FtShift, 2, "cell c = -7; main f; func f params 0 regs 2 { b0: r0 = get c0; r1 = div r0, 2; print r1; return; }"},
		{api.FtNotLess, 2, "cell c = 5; cell d = 5; main f; func f params 0 regs 4 { b0: r0 = get c0; r1 = get c1; r2 = lt r0, r1; r3 = eq r2, 0; print r3; return; }"},
		{api.FtStores, 3, "main f; func f params 0 regs 4 { local [1]; b0: jump b1; b1: r0 = load a0[0]; print r0; r1 = add r0, 1; store a0[0] = r1; r3 = add r3, 1; r2 = lt r3, 3; branch r2, b1, b2; b2: return; }"},
		{api.FtTrap, 3, "cell c = 0; main f; func f params 0 regs 2 { b0: r0 = get c0; jump b1; b1: print 1; branch r0, b2, b3; b2: r1 = div 5, r0; print r1; jump b1; b3: return; }"},
		{api.FtZeros, 3, "main f; func f params 0 regs 3 { b0: jump b1; b1: r0 = call g(); print r0; r1 = add r1, 1; r2 = lt r1, 3; branch r2, b1, b2; b2: return; } func g params 0 regs 2 result { local [1]; b0: r0 = load a0[0]; r1 = add r0, 1; store a0[0] = r1; return r1; }"},
		{api.FtRegisters, 3, "main f; func f params 0 regs 3 { b0: jump b1; b1: r0 = call g(); print r0; r1 = add r1, 1; r2 = lt r1, 3; branch r2, b1, b2; b2: return; } func g params 0 regs 1 result { b0: r0 = add r0, 1; return r0; }"},
	}
}

// P19.3, P19.4: the faults are those of all instances, also of those before the last one; without any, or with all others than one that matters, runs stay the same.
func TestFaults(t *testing.T) {
	for _, w := range witnesses() {
		m := samples.Read(t, w.text)
		last := instances(t, m, w.level)
		for first := range last + 1 {
			r := run(t, m, w.level, first, samples.All(api.FtLower1, api.FtLower2, api.FtLower3, api.FtChoose1, api.FtAlloc3))
			kept.ExpectKept(t, m, r.m)
			expectModel(t, m, w.level, first, samples.All(w.fault))
		}
		for _, first := range []int{last, -1} {
			for _, most := range []int{-1, 0, 1} {
				if r := run(t, m, w.level, first, api.Limit{Most: most, Faults: []int{w.fault}}); kept.IsKept(t, m, r.m) {
					t.Errorf("the fault %d, the first %d, Most %d: not seen in\n%s", w.fault, first, most, samples.Text(r.m))
				}
			}
		}
	}
}
