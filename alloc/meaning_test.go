package alloc_test

import (
	"fmt"
	"slices"
	"testing"

	"cupel/api"
	"cupel/choose"
	"cupel/irsem"
	"cupel/samples"
)

func runVirtual(t *testing.T, v api.VCode, steps int) api.Behaviour {
	t.Helper()
	b, e := choose.Run(v, steps)
	if e != api.OK {
		t.Fatalf("%s\nRun with %d steps: error %d", samples.VirtualText(v), steps, e)
	}
	return b
}

// need is how many steps an image may take where virtual code takes so many: an instruction becomes up to 4, and 3 are the beginning.
func need(steps int) int { return 4*steps + 3 }

// many is how many steps of virtual code are looked at.
const many = 1500

// runs is what virtual code does with some numbers of steps, the last one being many.
func runs(t *testing.T, v api.VCode) []api.Behaviour {
	t.Helper()
	var list []api.Behaviour
	for _, steps := range []int{0, 5, 40, 300, many} {
		list = append(list, runVirtual(t, v, steps))
	}
	return list
}

// isKept reports whether an image does what virtual code does that has these runs, with any steps, and ends with as many as it may take if the virtual code has ended. It never ends with a trap that programs have not.
func isKept(t *testing.T, virtual []api.Behaviour, i api.Image) bool {
	t.Helper()
	list := runImage(t, i, 0, 3, 20, 150, 1000, need(many))
	for _, a := range virtual {
		for n, b := range list {
			haveEnded := a.End != api.EnSteps && (b.End != api.EnSteps || n == len(list)-1)
			if !irsem.Agree(a, b) || haveEnded && !equal(a, b) || b.Code >= api.TrMemory {
				return false
			}
		}
	}
	return true
}

func equal(a, b api.Behaviour) bool {
	return slices.Equal(a.Out, b.Out) && a.End == b.End && a.Code == b.Code
}

// expectKept wants the images of virtual code that choose.Make has made to do what it does, with each number of registers.
func expectKept(t *testing.T, v api.VCode) {
	t.Helper()
	virtual := runs(t, v)
	for k := range most + 1 {
		if i := imageOf(t, v, k); !isKept(t, virtual, i) {
			t.Fatalf("with %d registers\n%s\ndoes something else than\n%s", k, textOf(i), samples.VirtualText(v))
		}
	}
}

// P22.4, P22.5: modules of all kinds.
func TestKept(t *testing.T) {
	t.Parallel()
	ends := map[string]int{}
	samples.Plain(t, 200, func(m api.Module) {
		v := made(t, m)
		expectKept(t, v)
		b := runVirtual(t, v, many)
		ends[fmt.Sprint(b.End, b.Code)]++
	})
	for _, end := range []string{"1 0", "2 1", "2 2", "2 3", "4 0"} {
		if ends[end] < 10 {
			t.Errorf("ends: %v", ends)
		}
	}
}

// P22.4: what is live over calls and loops, arguments of all kinds, local arrays beside others, and what is returned.
func TestFramesKept(t *testing.T) {
	for _, text := range []string{
		"main m; func g params 1 regs 1 result { b0: r0 = add r0, 1; return r0; } func m params 0 regs 3 { b0: r0 = 5; r1 = call g(r0); r2 = call g(r1); print r0; print r1; print r2; r0 = call g(r0); print r0; return; }",
		"main m; func g params 8 regs 8 result { b0: r0 = sub r0, r1; r2 = sub r2, r3; r4 = sub r4, r5; r6 = sub r6, r7; r0 = mul r0, r2; r4 = mul r4, r6; r0 = sub r0, r4; return r0; } func m params 0 regs 3 { b0: r0 = 7; r1 = call g(r0, 1, 2, r0, -3, 4, r1, 9); print r1; r2 = call g(r1, r1, r0, 3, 4294967296, r2, r1, r0); print r2; print r0; return; }",
		"array x[3]; main m; func f params 1 regs 3 { param[3]; local[2]; global x; b0: store a0[r0] = 7; store a1[r0] = 8; store a2[r0] = 9; r1 = load a0[0]; r2 = load a1[1]; print r1; print r2; return; } func m params 0 regs 2 { local[3]; local[3]; b0: store a0[1] = 4; store a1[0] = 3; call f(1; a0); call f(2; a1); call f(0; a1); r0 = load a0[1]; r1 = load a1[0]; print r0; print r1; r0 = load a0[0]; print r0; return; }",
		"main m; func m params 0 regs 4 { local[4]; b0: r0 = 3; r3 = 100; jump b1; b1: print r0; r1 = add r0, r3; store a0[r0] = r1; r0 = sub r0, 1; branch r0, b1, b2; b2: r2 = load a0[1]; print r2; r2 = load a0[2]; print r2; print r3; print r1; return; }",
		"main m; func a params 1 regs 2 result { b0: r1 = call b(r0); r0 = add r0, r1; return r0; } func b params 1 regs 2 result { local[2]; b0: store a0[0] = r0; r1 = call c(r0; a0); r0 = add r1, r0; r1 = load a0[1]; r0 = mul r0, r1; return r0; } func c params 1 regs 1 result { param[2]; b0: store a0[1] = r0; r0 = load a0[0]; return r0; } func m params 0 regs 2 { b0: r0 = call a(3); print r0; r1 = call b(r0); print r1; r1 = call a(r1); print r1; print r0; return; }",
	} {
		expectKept(t, made(t, samples.Read(t, text)))
	}
}

// P22.4: many registers that are live at once.
func TestManyKept(t *testing.T) {
	for _, n := range []int{1, 5, 6, 7, 8, 20, 60} {
		text := fmt.Sprintf("cell c = 3; main m; func m params 0 regs %d { b0: ", n)
		for r := range n {
			text += fmt.Sprintf("r%d = get c0; r%d = mul r%d, %d; ", r, r, r, r+2)
		}
		for r := range n {
			text += fmt.Sprintf("r%d = sub r%d, r%d; print r%d; ", r, r, (r*7+1)%n, r)
		}
		expectKept(t, made(t, samples.Read(t, text+"return; }")))
	}
}

// P22.4, P22.5: as many calls in each other as there may be.
func TestDeepKept(t *testing.T) {
	text := "main f0; "
	for i := range 20 {
		call := fmt.Sprintf("r2 = call f%d(r1, 3; a0); ", i+1)
		head := "params 2 regs 3 result { local[3]; param[3]; "
		switch i {
		case 0:
			head = "params 0 regs 3 { local[3]; "
		case 19:
			call = ""
		}
		text += fmt.Sprintf("func f%d %s b0: r1 = add r0, %d; store a0[r1] = r1; print r1; %sprint r1; print r2; r0 = load a0[0]; print r0; ", i, head, i, call)
		if i == 0 {
			text += "return; } "
		} else {
			text += "r2 = load a1[1]; print r2; return r1; } "
		}
	}
	expectKept(t, made(t, samples.Read(t, text)))
}

// P22.4: code that prints as much as it may, or more.
func TestPrintsKept(t *testing.T) {
	for _, n := range []int{1999, 2000, 2001} {
		v := made(t, samples.Read(t, fmt.Sprintf("main f; func f params 0 regs 2 { b0: jump b1; b1: print r0; r0 = add r0, 1; r1 = lt r0, %d; branch r1, b1, b2; b2: trap; }", n)))
		a := runVirtual(t, v, 100_000)
		for k := range most + 1 {
			if b := runImage(t, imageOf(t, v, k), need(100_000))[0]; !equal(a, b) {
				t.Errorf("with %d registers: %d prints, end %d, %d; want %d, end %d, %d", k, len(b.Out), b.End, b.Code, len(a.Out), a.End, a.Code)
			}
		}
	}
}

// P22.2: each fault of the layer is seen, in small modules and in many.
func TestFaultsSeen(t *testing.T) {
	t.Parallel()
	for _, c := range []struct {
		fault, k int
		text     string
		want     []int64
	}{
		{api.FtAlloc1, 1, "main m; func g params 0 regs 1 { b0: r0 = 9; print r0; return; } func m params 0 regs 1 { b0: r0 = 5; call g(); print r0; return; }", []int64{9, 9}},
		{api.FtAlloc2, 0, "main m; func m params 0 regs 2 { b0: r0 = 5; r1 = 6; print r0; print r1; return; }", []int64{6, 6}},
		{api.FtAlloc3, 6, "main m; func m params 0 regs 3 { b0: r0 = 5; r2 = 2; jump b1; b1: print r0; r1 = 7; print r1; r2 = sub r2, 1; branch r2, b1, b2; b2: return; }", []int64{5, 7, 7, 7}},
	} {
		v := made(t, samples.Read(t, c.text))
		i := imageOf(t, v, c.k, c.fault)
		if b := runImage(t, i, 1000)[0]; !slices.Equal(b.Out, c.want) || b.End != api.EnDone || isKept(t, runs(t, v), i) {
			t.Errorf("%s\nwith the fault %d prints %v, end %d, want %v", c.text, c.fault, b.Out, b.End, c.want)
		}
		expectKept(t, v)
	}
	seen, all := map[int]int{}, 0
	samples.Plain(t, 60, func(m api.Module) {
		v := made(t, m)
		virtual := runs(t, v)
		all++
		for _, fault := range own() {
			if !isKept(t, virtual, imageOf(t, v, 3, fault)) {
				seen[fault]++
			}
		}
	})
	for _, fault := range own() {
		if seen[fault] < 5 {
			t.Errorf("the fault %d is seen in %d of %d modules", fault, seen[fault], all)
		}
	}
}
