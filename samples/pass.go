package samples

import (
	"math"
	"slices"
	"strconv"
	"strings"

	"cupel/api"
	"cupel/ir"
	"cupel/parts"
	"cupel/ssa"
)

// Work is what a pass does to a function of a module.
type Work func(m api.Module, k int, x api.Limit) (api.Module, []api.Applied, api.Errno)

// Pass is a pass, with its name and its number, the faults that it looks at, what it has to do by another account, if there is one, how many steps what it makes may need for so many before, if not as many, and what says which functions it is for, if not those in static single assignment form.
type Pass struct {
	Name   string
	Number int
	Run    Work
	Faults []int
	Model  Work
	Steps  func(before int) int
	Form   Form
}

// Form returns the error of a function that does not have a form, or that of its module.
type Form func(m api.Module, k int) api.Errno

// NoPhi is the form of functions without phis.
func NoPhi(m api.Module, k int) api.Errno {
	e := ir.Check(m)
	if e == api.OK && parts.HasPhi(m.Funcs[k]) {
		e = api.ErrDown
	}
	return e
}

// CheckForm returns the error of a function that a pass is not for, or that of its module.
func (p Pass) CheckForm(m api.Module, k int) api.Errno {
	if p.Form != nil {
		return p.Form(m, k)
	}
	return ssa.Check(m, k)
}

// FaultLists returns all lists of faults of a pass, the one without any first.
func (p Pass) FaultLists() [][]int {
	all := [][]int{nil}
	for _, fault := range p.Faults {
		for _, list := range all {
			all = append(all, append(slices.Clone(list), fault))
		}
	}
	return all
}

// Made returns what a pass makes of a function, and its applications; the module has to be valid, and the function one that the pass is for.
func (p Pass) Made(t T, m api.Module, k int, x api.Limit) (api.Module, []api.Applied) {
	t.Helper()
	made, list, e := p.Run(m, k, x)
	if e != api.OK {
		t.Fatalf("%s\nRun of %d, %v: error %d", Text(m), k, x, e)
	}
	if e := p.CheckForm(made, k); e != api.OK {
		t.Fatalf("%s\nRun of %d, %v: error %d of\n%+v", Text(m), k, x, e, made)
	}
	return made, list
}

// ExpectError wants an error of a pass, and nothing besides.
func (p Pass) ExpectError(t T, m api.Module, k int, x api.Limit, want api.Errno) {
	t.Helper()
	made, list, e := p.Run(m, k, x)
	if e != want || len(list) > 0 || !ir.Same(made, api.Module{}) {
		t.Errorf("%.2000s\nRun of %d, %v: applications %v, error %d, want %d", Text(m), k, x, list, e, want)
	}
}

// Row is a function before and after all applications, and these. If it gets another head, there are two, as in "1 regs 2 / 1 regs 3".
type Row struct{ What, Head, Before, After, Made string }

// modules returns those of a row, before and after.
func (r Row) modules(t T) (before, after api.Module) {
	t.Helper()
	head, other, two := strings.Cut(r.Head, " / ")
	if !two {
		other = head
	}
	return Of(t, head, r.Before), Of(t, other, r.After)
}

// Expect wants what a row says of the function 0 of Of.
func (p Pass) Expect(t T, x api.Limit, r Row) {
	t.Helper()
	before, after := r.modules(t)
	p.ExpectMade(t, r.What, before, after, 0, x, r.Made)
}

// ExpectMade wants a pass to make one module of another one, by these applications to one of its functions.
func (p Pass) ExpectMade(t T, what string, before, after api.Module, k int, x api.Limit, made string) {
	t.Helper()
	m, list := p.Made(t, before, k, x)
	if !ir.Same(m, after) {
		t.Errorf("%s: Run of %d of\n%s\nis\n%s", what, k, Text(before), Text(m))
	}
	if want := p.Applied(k, made); !slices.Equal(list, want) {
		t.Errorf("%s: Run of %d of\n%s\napplications %v, want %v", what, k, Text(before), list, want)
	}
}

// ExpectSound wants what Expect does without faults, and runs to stay the same.
func (p Pass) ExpectSound(t T, r Row) {
	t.Helper()
	p.Expect(t, All(), r)
	before, after := r.modules(t)
	p.ExpectKept(t, before, after)
}

// fields are those of a Row. Tests have a type of their own with them, so that they can write rows without the names of fields.
type fields interface {
	~struct{ What, Head, Before, After, Made string }
}

// ExpectRows wants of a pass what rows say.
func ExpectRows[R fields](t T, p Pass, x api.Limit, rows []R) {
	t.Helper()
	for _, r := range rows {
		p.Expect(t, x, Row(r))
	}
}

// ExpectSoundRows wants what ExpectRows does without faults, and runs to stay the same.
func ExpectSoundRows[R fields](t T, p Pass, rows []R) {
	t.Helper()
	for _, r := range rows {
		p.ExpectSound(t, Row(r))
	}
}

// ExpectSteps wants the first so many applications, whatever the limit: the bodies are those after 0, 1, 2 .. of them. There may be as many heads, as in "1 regs 2 / 1 regs 3 / 1 regs 4".
func (p Pass) ExpectSteps(t T, head string, bodies []string, made string) {
	t.Helper()
	words, last, heads := strings.Fields(made), len(bodies)-1, strings.Split(head, " / ")
	headOf := func(count int) string { return heads[min(count, len(heads)-1)] }
	limits := []int{-1, 3999, 4000, 4001, math.MaxInt}
	for most := range last + 4 {
		limits = append(limits, most)
	}
	for _, most := range limits {
		count := most
		if most < 0 || most > last {
			count = last
		}
		p.Expect(t, api.Limit{Most: most}, Row{"Most " + strconv.Itoa(most), headOf(0) + " / " + headOf(count), bodies[0], bodies[count], strings.Join(words[:count], " ")})
	}
	for i, body := range bodies {
		p.ExpectKept(t, Of(t, headOf(0), bodies[0]), Of(t, headOf(i), body))
	}
}

// Part is what one function of a text is before and after all applications, and these.
type Part struct{ Before, After, Made string }

// ExpectEach wants of the first functions of a module what their parts say, of each one alone while the others stay as they are, and runs to stay the same. The text of the module has a %s for each part.
func (p Pass) ExpectEach(t T, text string, list ...Part) {
	t.Helper()
	fill := func(changed int) api.Module {
		filled := text
		for k, part := range list {
			code := part.Before
			if k == changed {
				code = part.After
			}
			filled = strings.Replace(filled, "%s", code, 1)
		}
		return Read(t, filled)
	}
	m := fill(-1)
	for k, part := range list {
		p.ExpectMade(t, "one function", m, fill(k), k, All(), part.Made)
		p.ExpectKept(t, m, fill(k))
	}
}

// Applied reads a list of applications for a function: b1:2/3 is that of the rule 3 at the instruction 2 of the block 1, b1:end that of the rule 1 at its end.
func (p Pass) Applied(k int, words string) []api.Applied {
	var list []api.Applied
	for _, word := range strings.Fields(words) {
		site, rule, _ := strings.Cut(word, "/")
		block, index, _ := strings.Cut(site[1:], ":")
		list = append(list, api.Applied{Pass: p.Number, Rule: number(rule, 1), Func: k, Block: number(block, 0), Index: number(index, -1)})
	}
	return list
}

// number reads a number, or returns another one where there is none.
func number(text string, otherwise int) int {
	if n, wrong := strconv.Atoi(text); wrong == nil {
		return n
	}
	return otherwise
}

// ExpectModel wants of a pass what the model says, and returns it: nothing if that is an error.
func (p Pass) ExpectModel(t T, m api.Module, k int, x api.Limit) (api.Module, []api.Applied) {
	t.Helper()
	want, wantList, e := p.Model(m, k, x)
	if e != api.OK {
		p.ExpectError(t, m, k, x, e)
		return api.Module{}, nil
	}
	got, list := p.Made(t, m, k, x)
	if !ir.Same(got, want) || !slices.Equal(list, wantList) {
		t.Fatalf("%s\nRun of %d, %v: is\n%s\n%v\nwant\n%s\n%v", Text(m), k, x, Text(got), list, Text(want), wantList)
	}
	return got, list
}

// Count says how often rules were applied, and by which lists of faults how many functions became different.
type Count struct{ Rules, Changed map[int]int }

// ExpectEnough wants each of the rules, up to the last one, to have been applied so often, and each list of faults to have changed so many functions.
func (c Count) ExpectEnough(t T, last, applied, changed int) {
	t.Helper()
	for rule := 1; rule <= last; rule++ {
		if c.Rules[rule] < applied {
			t.Errorf("the rule %d: applied %d times", rule, c.Rules[rule])
		}
	}
	for i := range len(c.Changed) {
		if n := c.Changed[i]; i == 0 && n > 0 || i > 0 && n < changed {
			t.Errorf("the list %d of faults: %d functions changed", i, n)
		}
	}
}

// ExpectModelOf wants of functions what the model says, for each list of faults, and for one of them with each number of applications.
func (p Pass) ExpectModelOf(t T, count, blocks int) Count {
	t.Helper()
	return p.ExpectModelIn(t, func(look func(m api.Module)) { Functions(t, count, blocks, look) })
}

// ExpectModelIn wants what ExpectModelOf does of the functions 0 of modules.
func (p Pass) ExpectModelIn(t T, each func(look func(m api.Module))) Count {
	t.Helper()
	c, turn := Count{map[int]int{}, map[int]int{}}, 0
	for i := range p.FaultLists() {
		c.Changed[i] = 0
	}
	each(func(m api.Module) {
		plain, _ := p.ExpectModel(t, m, 0, All())
		lists := p.FaultLists()
		for i, faults := range lists {
			made, list := p.ExpectModel(t, m, 0, All(faults...))
			for _, a := range list {
				c.Rules[a.Rule]++
			}
			if !ir.Same(made, plain) {
				c.Changed[i]++
			}
			for most := 0; i == turn%len(lists) && most < len(list)+2; most++ {
				p.ExpectModel(t, m, 0, api.Limit{Most: most, Faults: faults})
			}
		}
		turn++
	})
	return c
}

// ExpectModelOfLong wants what the model says of functions of up to 60 blocks.
func (p Pass) ExpectModelOfLong(t T, count int) {
	t.Helper()
	Functions(t, count, api.MaxIBlocks, func(m api.Module) {
		for _, faults := range p.FaultLists() {
			p.ExpectModel(t, m, 0, All(faults...))
		}
	})
}

// ExpectModelOfPrograms wants what the model says of the functions of generated programs, and returns how many applications there were.
func (p Pass) ExpectModelOfPrograms(t T, count int) int {
	t.Helper()
	return p.ExpectModelOfAll(t, func(look func(m api.Module)) { Programs(count, look) })
}

// ExpectModelOfAll wants what ExpectModelOfPrograms does of all functions of modules.
func (p Pass) ExpectModelOfAll(t T, each func(look func(m api.Module))) int {
	t.Helper()
	all := 0
	each(func(m api.Module) {
		for k := range m.Funcs {
			for _, faults := range p.FaultLists() {
				_, list := p.ExpectModel(t, m, k, All(faults...))
				all += len(list)
			}
		}
	})
	return all
}
