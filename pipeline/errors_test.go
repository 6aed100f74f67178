package pipeline_test

import (
	"math"
	"strconv"
	"strings"
	"testing"

	"cupel/api"
	"cupel/samples"
)

// jumps are the blocks from one up to the block 59; each leads to the next one, and the last one returns.
func jumps(from int) string {
	var s strings.Builder
	for b := from; b < 59; b++ {
		s.WriteString("b" + strconv.Itoa(b) + ": jump b" + strconv.Itoa(b+1) + "; ")
	}
	return s.String() + "b59: return; "
}

// chain is a loop with so many copies of copies, which so many blocks end.
func chain(copies, ends int) string {
	var s strings.Builder
	s.WriteString("b0: r0 = get c0; r1 = r0; jump b1; b1: " + strings.Repeat("r1 = r1; ", copies) + "jump b2; ")
	for i := range ends {
		b := 2 + 2*i
		s.WriteString("b" + strconv.Itoa(b) + ": branch r0, b" + strconv.Itoa(b+1) + ", b" + strconv.Itoa(b+2) + "; b" + strconv.Itoa(b+1) + ": jump b1; ")
	}
	return s.String() + "b" + strconv.Itoa(2+2*ends) + ": return; "
}

// bodies are those of functions of 4 registers, by what is said of them.
func bodies() map[string]string {
	return map[string]string{
		"plain":        "b0: r0 = 1; r0 = add r0, r1; print r0; return; ",
		"form":         "b0: jump b1; b1: r0 = phi b0: 1, b1: r1; r1 = add r0, 1; branch r1, b1, b2; b2: return; ",
		"no form":      "b0: jump b1; b1: r0 = phi b0: r1; r1 = add r0, 1; print r1; return; ",
		"long Into":    "b0: " + strings.Repeat("r0 = 1; ", 301) + "return; ",
		"long closing": "b0: jump b1; b1: r0 = phi b0: 1, b1: 2; branch r0, b1, b2; b2: return; b3: jump b2; " + jumps(4),
		"long Out":     "b0: jump b1; b1: r0 = add r0, 1; branch r0, b1, b2; b2: print r0; jump b3; " + jumps(3),
		"long Copies":  chain(250, 16), // each operand of the phi goes along the chain
		"long Hoist":   "b0: r0 = get c0; branch r0, b1, b2; b1: r1 = add r0, 1; print r1; r2 = get c1; branch r2, b1, b2; b2: jump b3; " + jumps(3),
	}
}

// ofBodies is a module of functions with these bodies.
func ofBodies(t *testing.T, names string) api.Module {
	t.Helper()
	var s strings.Builder
	s.WriteString("cell c = 0; cell d = 0; main m; func m params 0 regs 0 { b0: return; } ")
	for i, name := range strings.Split(names, ", ") {
		s.WriteString("func " + []string{"f", "g", "h"}[i] + " params 0 regs 4 { " + bodies()[name] + "} ")
	}
	return samples.Read(t, s.String())
}

// P19.3: the first error of the instances, as far as they are run, and after these the first one of what is closed, in the order of the functions.
func TestRunErrors(t *testing.T) {
	const ok, down, long = api.OK, api.ErrDown, api.ErrLong
	for _, c := range []struct {
		names              string
		level, first, most int
		want               api.Errno
	}{
		// The function 0 is plain, so that the instances of Into begin with one that goes well.
		{"plain, long Into", 1, 2, -1, ok},
		{"plain, long Into", 1, 3, -1, long},
		{"plain, long Into", 1, 3, 0, ok},
		{"plain, long Into", 1, 4, 0, long},
		{"plain, long Into", 1, -1, 0, long},
		{"plain, long Into", 0, -1, -1, ok},
		{"form", 1, 1, -1, ok},
		{"form", 1, 2, -1, down},
		{"form", 1, 2, 0, down},
		{"form", 3, 1, -1, ok},
		{"form", 3, 2, -1, down},
		{"form", 3, 2, 0, down},
		{"plain, no form", 1, 0, -1, down},
		{"plain, no form", 2, 1, 0, down},
		{"plain, no form", 0, -1, -1, down},
		{"no form, plain", 0, 0, 0, down},
		// What is closed, ascending.
		{"long closing", 0, 0, 0, long},
		{"no form, long closing", 2, 0, -1, down},
		{"long closing, no form", 2, 0, -1, long},
		{"form, long closing, no form", 2, 0, -1, long},
		{"form, no form, long closing", 2, 1, -1, down},
		// The instances come first.
		{"long Into, no form", 1, 1, -1, down},
		{"long Into, no form", 1, 2, -1, long},
		{"long Into, no form", 1, 2, 0, down},
		{"no form, long Into", 1, 2, -1, down},
		{"long closing, long Into", 1, 2, -1, down},
		{"long Into, long closing", 1, 2, -1, long},
		{"long Into, long closing", 1, 3, 0, long},
		{"plain, long closing", 1, 3, -1, down},
		// Errors of other passes, and of what has to be closed after their instances.
		{"long Out", 1, 1, -1, ok},
		{"long Out", 1, 2, 0, ok},
		{"long Out", 1, 2, -1, long},
		{"long Out", 1, 8, -1, long},
		{"long Out", 1, 8, 0, long},
		{"long Copies", 2, 4, -1, ok},
		{"long Copies", 2, 6, 4000, ok},
		{"long Copies", 2, 6, 4001, long},
		{"long Copies", 2, 6, -1, long},
		{"long Copies", 2, 7, 0, long},
		{"long Copies", 1, -1, -1, ok},
		{"long Hoist", 2, -1, -1, ok},
		{"long Hoist", 3, 11, -1, ok},
		{"long Hoist", 3, 12, 0, ok},
		{"long Hoist", 3, 12, 1, long},
		{"long Hoist", 3, 13, 0, long},
		{"long Hoist, no form", 3, 6, -1, down},
		{"long Hoist, plain", 3, -1, -1, long},
	} {
		m, x := ofBodies(t, c.names), api.Limit{Most: c.most}
		if c.want != api.OK {
			expectError(t, m, c.level, c.first, x, c.want)
		} else {
			run(t, m, c.level, c.first, x)
		}
	}
}

// P19.3: the error of the module comes first, then that of the limit, then that of the level and the number of instances, then those of instances.
func TestOrderOfErrors(t *testing.T) {
	m := ofBodies(t, "no form, long Into")
	all := append(wrongLimits(), samples.All(), api.Limit{}, api.Limit{Most: 1, Faults: []int{1, 24}})
	for level := -1; level <= 4; level++ {
		for _, first := range []int{-2, -1, 0, 5, 99} {
			for _, x := range all {
				for want, m := range wrongModules(t) {
					expectError(t, m, level, first, x, want)
				}
				expectError(t, api.Module{}, level, first, x, api.ErrArg)
			}
			for _, x := range wrongLimits() {
				expectError(t, m, level, first, x, api.ErrArg)
			}
		}
	}
	for _, x := range all[len(wrongLimits()):] {
		for _, level := range []int{-1, 4, 5, math.MinInt, math.MaxInt} {
			for _, first := range []int{-2, -1, 0, 1, math.MaxInt} {
				expectError(t, m, level, first, x, api.ErrPass)
			}
		}
		for level, count := range []int{0, 15, 27, 36} {
			for _, first := range []int{-2, -3, math.MinInt, count + 1, count + 2, math.MaxInt} {
				expectError(t, m, level, first, x, api.ErrPass)
			}
		}
	}
}

// P19.3: the numbers of instances that are right, up to the last one.
func TestNumbersOfInstances(t *testing.T) {
	for _, m := range []api.Module{many(t, 1), samples.Read(t, two), many(t, api.MaxIFuncs)} {
		for level, count := range []int{0, 5, 9, 12} {
			last := count * len(m.Funcs)
			for first := -1; first <= last; first++ {
				want := first
				if first < 0 {
					want = last
				}
				if r := run(t, m, level, first, samples.All()); len(r.lists) != want {
					t.Errorf("%d functions, the level %d, the first %d: %d lists", len(m.Funcs), level, first, len(r.lists))
				}
			}
			expectError(t, m, level, last+1, samples.All(), api.ErrPass)
		}
	}
}
