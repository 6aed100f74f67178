package choose_test

import (
	"fmt"
	"strings"
	"testing"

	"cupel/api"
	"cupel/choose"
	"cupel/irsem"
	"cupel/samples"
)

// need is how many steps virtual code may take at most where a module takes so many: an instruction becomes up to 34, and a call has up to 657 before its first one.
func need(steps int) int { return min(700*(steps+1), api.MaxMSteps) }

// isKept reports whether virtual code does what a module does, with any steps, and ends with as many as it may take if the module has ended.
func isKept(t *testing.T, m api.Module, v api.VCode) bool {
	t.Helper()
	const most = 400
	var list []api.Behaviour
	for _, steps := range []int{0, 2, 7, 30, 100, 1000, need(most)} {
		list = append(list, run(t, v, steps))
	}
	for _, steps := range []int{0, 3, 12, 60, most} {
		a := samples.Run(t, m, steps)
		for i, b := range list {
			haveEnded := a.End != api.EnSteps && (b.End != api.EnSteps || i == len(list)-1)
			if !irsem.Agree(a, b) || haveEnded && !equal(a, b) {
				return false
			}
		}
	}
	return true
}

// expectKept wants virtual code that Make makes without faults, which is valid, to do what its module does.
func expectKept(t *testing.T, m api.Module) {
	t.Helper()
	if v := made(t, m); !isKept(t, m, v) {
		t.Fatalf("%s\ndoes something else than\n%s", samples.VirtualText(v), samples.Text(m))
	}
}

// P21.4, P21.5: modules of all kinds.
func TestKept(t *testing.T) {
	t.Parallel()
	ends := map[string]int{}
	samples.Plain(t, 400, func(m api.Module) {
		expectKept(t, m)
		b := samples.Run(t, m, 400)
		ends[fmt.Sprint(b.End, b.Code)]++
	})
	for _, end := range []string{"1 0", "2 1", "2 2", "2 3", "4 0"} {
		if ends[end] < 10 {
			t.Errorf("ends: %v", ends)
		}
	}
}

// P21.4: all operations, of registers and constants of all sizes.
func TestOperationsKept(t *testing.T) {
	t.Parallel()
	numbers := []int64{0, 1, -1, 7, -7, 64, 1<<31 - 1, 1 << 31, -1 << 31, greatest, least}
	for _, w := range words {
		word := strings.TrimPrefix(w, "*")
		for _, a := range numbers {
			for _, b := range numbers {
				var code strings.Builder
				for _, operands := range []string{"r0, r1", fmt.Sprint("r0, ", b), fmt.Sprint(a, ", r1"), fmt.Sprint(a, ", ", b)} {
					fmt.Fprintf(&code, "r2 = %s %s; print r2; ", word, operands)
				}
				text := fmt.Sprintf("cell a = %d; cell b = %d; main f; func f params 0 regs 3 { b0: r0 = get c0; r1 = get c1; %sr0 = %s r0, r0; print r0; check r2, r0; check r2, %d; check %d, r1; return; }", a, b, code.String(), word, b, a)
				expectKept(t, samples.Read(t, text))
			}
		}
	}
}

// P21.4: elements of arrays of each kind and length, whatever the index is.
func TestElementsKept(t *testing.T) {
	t.Parallel()
	for _, n := range []int64{1, 2, 3, 5, 15, 16} {
		for _, small := range []string{"", " small"} {
			for _, i := range []int64{0, 1, -1, n - 1, n, n + 1, -n, -n - 1, 2*n - 1, 1 << 31, -1 << 31, greatest, least} {
				use := func(a string) string {
					return fmt.Sprintf("store %s[r0] = %d; store %s[%d] = r0; store %s[r1] = r0; r2 = load %s[%d]; print r2; r2 = load %s[r0]; print r2; r2 = load %s[0]; print r2; r2 = load %s[%d]; print r2; ", a, i, a, i+1, a, a, i, a, a, a, n-1)
				}
				text := fmt.Sprintf("cell i = %d; array x[%d]%s; array y[2]; main f; func f params 0 regs 3 { local[3]; local[%d]%s; global x; b0: r0 = get c0; r1 = sub r0, 3; %s%scall g(r0; a1); call h(r1, r0; a2); r2 = load a0[1]; print r2; return; } ", i, n, small, n, small, use("a1"), use("a2"))
				text += fmt.Sprintf("func g params 1 regs 3 { param[%d]%s; b0: %sreturn; } func h params 2 regs 3 { local[1]; param[%d]%s; b0: %sreturn; }", n, small, use("a0"), n, small, use("a1"))
				expectKept(t, samples.Read(t, text))
			}
		}
	}
}

// P21.4: local arrays are 0 in each call, registers that are not set are, and small elements keep what they may.
func TestRoomsKept(t *testing.T) {
	for _, text := range []string{
		"main m; func g params 1 regs 3 result { local[3]; b0: r1 = load a0[r0]; r2 = add r2, r1; store a0[r0] = 7; r1 = load a0[r0]; r2 = add r2, r1; return r2; } func m params 0 regs 2 { local[2]; b0: store a0[0] = 5; r0 = call g(1); print r0; r0 = call g(1); print r0; r1 = load a0[0]; print r1; r1 = call g(4); print r1; return; }",
		"main m; func g params 0 regs 1 { local[4]; b0: store a0[0] = 1; store a0[1] = 2; store a0[2] = 3; store a0[3] = 4; return; } func h params 0 regs 3 { local[1]; local[2] small; b0: call g(); r0 = load a0[0]; print r0; r0 = load a1[0]; print r0; r0 = load a1[1]; print r0; print r1; store a1[1] = 511; r2 = load a1[1]; print r2; return; } func m params 0 regs 0 { b0: call g(); call h(); call h(); return; }",
		"cell c = 3; array x[2] small; main m; func g params 1 regs 2 { param[2] small; b0: store a0[r0] = -1; store a0[2] = 256; return; } func m params 0 regs 2 { global x; b0: call g(1; a0); r0 = load a0[0]; print r0; r0 = load a0[1]; print r0; r0 = get c0; print r0; return; }",
		"main m; func m params 0 regs 2 { b0: branch r0, b1, b2; b1: print 1; jump b3; b2: print 2; r1 = 5; jump b3; b3: print r1; return; }",
	} {
		expectKept(t, samples.Read(t, text))
	}
}

// P21.4: modules that print as much as they may, or more.
func TestPrintsKept(t *testing.T) {
	for _, n := range []int{1999, 2000, 2001} {
		for _, last := range []string{"return;", "trap;", "print 7; return;"} {
			m := samples.Read(t, fmt.Sprintf("main f; func f params 0 regs 2 { b0: jump b1; b1: print r0; r0 = add r0, 1; r1 = lt r0, %d; branch r1, b1, b2; b2: %s }", n, last))
			a, b := samples.Run(t, m, 20000), run(t, made(t, m), 100000)
			if !equal(a, b) {
				t.Errorf("%s\nprints %d, end %d; its virtual code %d, end %d", samples.Text(m), len(a.Out), a.End, len(b.Out), b.End)
			}
		}
	}
}

// P21.1: each fault of the layer is seen, as the examples have it, and in many modules.
func TestFaultsSeen(t *testing.T) {
	t.Parallel()
	const array = "main f; func f params 0 regs 1 { local[3]%s; b0: %s r0 = load a0[2]; print r0; return; }"
	for _, c := range []struct {
		fault       int
		text, wrong string
	}{
		{api.FtChoose1, "main f; func f params 0 regs 1 { b0: r0 = 3; r0 = sub 10, r0; print r0; return; }", "[-7] done"},
		{api.FtChoose2, fmt.Sprintf(array, "", "r0 = -1; store a0[r0] = 5;"), "[] trap 10"},
		{api.FtChoose2, "array x[2]; array y[3]; main f; func f params 0 regs 2 { global y; global x; b0: r0 = -1; store a0[r0] = 5; r1 = load a0[2]; print r1; r1 = load a1[1]; print r1; return; }", "[0 5] done"},
		{api.FtChoose3, fmt.Sprintf(array, " small", "store a0[2] = 300;"), "[300] done"},
		{api.FtChoose3, fmt.Sprintf(array, " small", "r0 = -1; store a0[2] = r0;"), "[-1] done"},
	} {
		m := samples.Read(t, c.text)
		v := made(t, m, c.fault)
		if got := show(run(t, v, 1000)); got != c.wrong || isKept(t, m, v) {
			t.Errorf("%s\nwith the fault %d does %s, want %s", c.text, c.fault, got, c.wrong)
		}
		expectKept(t, m)
	}
	seen, all := map[int]int{}, 0
	samples.Plain(t, 80, func(m api.Module) {
		all++
		for _, fault := range own() {
			if !isKept(t, m, made(t, m, fault)) {
				seen[fault]++
			}
		}
	})
	for _, fault := range own() {
		if seen[fault] < 5 {
			t.Errorf("the fault %d is seen in %d of %d modules", fault, seen[fault], all)
		}
	}
}

// P21.3, P21.4: with more steps a run goes on in the same way.
func TestMoreSteps(t *testing.T) {
	for seed := range uint64(300) {
		v := samples.Virtual(seed, 5)
		last, e := choose.Run(v, 0)
		for steps := 1; steps < 60; steps++ {
			b := run(t, v, steps)
			if e != api.OK || !irsem.Agree(last, b) || last.End != api.EnSteps && !equal(last, b) {
				t.Fatalf("%s\ndoes %s, with %d steps %s", samples.VirtualText(v), show(last), steps, show(b))
			}
			last = b
		}
	}
}
