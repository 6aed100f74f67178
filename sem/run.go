package sem

import (
	"slices"

	"cupel/api"
)

// run is a run of a program, which has no flaw.
type run struct {
	p           *api.Program
	funcs       map[string]int
	unaries     [api.UnComp + 1]unary
	binaries    [api.BiLor + 1]binary
	globals     map[string]variable
	frame       *frame // of the function that runs
	steps, used int
	out         []int64
	begins      func() // called where a statement begins
}

// frame is what a call of a function has of its own. A name that comes again in another block takes the place of the one that is no longer visible.
type frame struct {
	path []int // of the node that runs
	vars map[string]variable
}

func (f *frame) push(step int) { f.path = append(f.path, step) }

func (f *frame) pop() { f.path = f.path[:len(f.path)-1] }

// variable is a scalar, with one cell, or an array; two variables that mean the same array share their cells.
type variable struct {
	kind  int
	cells []int64
}

// value is a value of a kind.
type value struct {
	kind int
	n    int64
}

// stop is what keeps a statement from ending normally.
type stop interface{ stops() }

type broken struct{}

type continued struct{}

type returned struct{ value value }

// ended is the end of the run.
type ended struct {
	behaviour api.Behaviour
	place     []int
}

func (broken) stops()    {}
func (continued) stops() {}
func (returned) stops()  {}
func (ended) stops()     {}

func newRun(p *api.Program, steps int) *run {
	r := &run{p: p, steps: steps, unaries: unaries(), binaries: binaries(), begins: func() {}}
	r.funcs, r.globals = map[string]int{}, map[string]variable{}
	for i, f := range p.Funcs {
		r.funcs[f.Name] = i
	}
	for _, g := range p.Globals {
		r.globals[g.Name] = newVariable(g.Type, g.Init)
	}
	return r
}

// newVariable returns a scalar with a value, or an array of it.
func newVariable(t api.Type, n int64) variable {
	return variable{t.Kind, slices.Repeat([]int64{n}, max(t.Len, 1))}
}

// main runs the whole program.
func (r *run) main() ended {
	switch s := r.body(r.funcs["main"], map[string]variable{}).(type) {
	case ended:
		return s
	}
	return ended{api.Behaviour{Out: r.out, End: api.EnDone}, nil}
}

// body runs the Body of a function, with its parameters, and returns what stopped it.
func (r *run) body(f int, params map[string]variable) stop {
	caller := r.frame
	r.frame = &frame{[]int{f}, params}
	s := r.block(r.p.Funcs[f].Body)
	r.frame = caller
	return s
}

// step lets a node begin, or a round of a for, if a step is left for it.
func (r *run) step() stop {
	if r.used == r.steps {
		return r.end(api.EnSteps, 0)
	}
	r.used++
	return nil
}

// end ends the run at the node that runs.
func (r *run) end(end, code int) stop {
	return ended{api.Behaviour{Out: r.out, End: end, Code: code}, slices.Clone(r.frame.path)}
}

// find returns the variable that a name means where it is visible.
func (r *run) find(name string) variable {
	if v, ok := r.frame.vars[name]; ok {
		return v
	}
	return r.globals[name]
}

// scalars returns the values of the scalars that have one for sure.
func (r *run) scalars(names []api.Known) []int64 {
	row := []int64{}
	for _, k := range names {
		if k.Set && k.Type.Len == 0 {
			row = append(row, r.find(k.Name).cells[0])
		}
	}
	return row
}
