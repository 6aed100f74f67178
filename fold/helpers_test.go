package fold_test

import (
	"fmt"
	"math/rand/v2"
	"reflect"
	"slices"
	"strconv"
	"strings"
	"testing"

	"cupel/api"
	"cupel/fold"
	"cupel/ir"
	"cupel/irsem"
	"cupel/ssa"
)

func read(t *testing.T, text string) api.Module {
	t.Helper()
	m, at, e := ir.Parse(text)
	if e != api.OK {
		t.Fatalf("Parse(%q): error %d at %d", text, e, at)
	}
	return m
}

func text(m api.Module) string {
	s, _ := ir.Print(m)
	return s
}

// random draws numbers, always the same ones.
func random(seed uint64) *rand.Rand { return rand.New(rand.NewPCG(seed, 13)) }

// all is the limit with which everything is done; it may have faults.
func all(faults ...int) api.Limit { return api.Limit{Most: -1, Faults: faults} }

// of is a module with a function of this head ("2 regs 3": 2 parameters) and body, which is the function 0. It is called with various arguments, the results being printed.
func of(t *testing.T, head, body string) api.Module {
	t.Helper()
	var main strings.Builder
	for i, args := range []string{"0, 0", "1, 5", "-1, 1", "7, -3"} {
		given := strings.Join(strings.Split(args, ", ")[:head[0]-'0'], ", ")
		if strings.Contains(head, "result") {
			fmt.Fprintf(&main, "r%d = call f(%s); print r%d; ", i, given, i)
		} else {
			fmt.Fprintf(&main, "call f(%s); print 100; ", given)
		}
	}
	return read(t, "cell c0 = 5; cell c1 = 6; array x[2]; main m; func f params "+head+" { local[2]; local[3] small; "+body+" } func m params 0 regs 4 { b0: "+main.String()+"return; } func g params 2 regs 2 result { param[2]; b0: print r0; return r1; }")
}

// folded returns what Run makes of a function, and its applications; the module has to be valid, and the function in static single assignment form.
func folded(t *testing.T, m api.Module, k int, x api.Limit) (api.Module, []api.Applied) {
	t.Helper()
	made, list, e := fold.Run(m, k, x)
	if e != api.OK {
		t.Fatalf("%s\nRun of %d, %v: error %d", text(m), k, x, e)
	}
	if e := ssa.Check(made, k); e != api.OK {
		t.Fatalf("%s\nRun of %d, %v: error %d of\n%+v", text(m), k, x, e, made)
	}
	return made, list
}

// fail wants an error of Run, and nothing besides.
func fail(t *testing.T, m api.Module, k int, x api.Limit, want api.Errno) {
	t.Helper()
	made, list, e := fold.Run(m, k, x)
	if e != want || len(list) > 0 || !reflect.ValueOf(made).IsZero() {
		t.Errorf("%.2000s\nRun of %d, %v: applications %v, error %d, want %d", text(m), k, x, list, e, want)
	}
}

// applied reads a list of applications for a function: b1:2 is rule 1 at the instruction 2 of the block 1, b1:end at its end, and b1:jump is rule 2 there.
func applied(t *testing.T, k int, words string) []api.Applied {
	t.Helper()
	var list []api.Applied
	for _, word := range strings.Fields(words) {
		block, place, _ := strings.Cut(word[1:], ":")
		a := api.Applied{Pass: api.PsFold, Rule: 1, Func: k, Index: -1}
		var wrong, alsoWrong error
		a.Block, wrong = strconv.Atoi(block)
		switch place {
		case "end":
		case "jump":
			a.Rule = 2
		default:
			a.Index, alsoWrong = strconv.Atoi(place)
		}
		if wrong != nil || alsoWrong != nil {
			t.Fatalf("%q is no application", word)
		}
		list = append(list, a)
	}
	return list
}

// row is a function before and after all applications, and these.
type row struct{ what, head, before, after, made string }

func expect(t *testing.T, x api.Limit, rows []row) {
	t.Helper()
	for _, r := range rows {
		m := of(t, r.head, r.before)
		made, list := folded(t, m, 0, x)
		if want := of(t, r.head, r.after); !ir.Same(made, want) {
			t.Errorf("%s: Run of %s\nis %s", r.what, r.before, text(made))
		}
		if want := applied(t, 0, r.made); !slices.Equal(list, want) {
			t.Errorf("%s: Run of %s\napplications %v, want %v", r.what, r.before, list, want)
		}
	}
}

// expectSound wants what expect does without faults, and runs to stay the same.
func expectSound(t *testing.T, rows []row) {
	t.Helper()
	expect(t, all(), rows)
	for _, r := range rows {
		expectRuns(t, of(t, r.head, r.before), of(t, r.head, r.after))
	}
}

func run(t *testing.T, m api.Module, steps int) api.Behaviour {
	t.Helper()
	b, e := irsem.Run(m, steps)
	if e != api.OK {
		t.Fatalf("%s\nRun: error %d", text(m), e)
	}
	return b
}

// sameRuns reports whether two modules do the same, with as many steps, and enter the same blocks.
func sameRuns(t *testing.T, m, other api.Module) bool {
	t.Helper()
	for _, steps := range []int{0, 1, 2, 5, 12, 40, 150, 700} {
		a, b := run(t, m, steps), run(t, other, steps)
		if !irsem.Agree(a, b) || a.End != b.End || a.Code != b.Code || !slices.Equal(a.Out, b.Out) {
			return false
		}
	}
	a, _ := irsem.Trace(m, 700, 700)
	b, _ := irsem.Trace(other, 700, 700)
	return slices.Equal(a, b)
}

func expectRuns(t *testing.T, m, other api.Module) {
	t.Helper()
	if !sameRuns(t, m, other) {
		t.Fatalf("%s\ndoes something else than\n%s", text(m), text(other))
	}
}
