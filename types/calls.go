package types

import (
	"slices"

	"cupel/api"
)

// deeds is what a function does with functions and globals, by their indices.
type deeds struct {
	calls         [api.MaxFuncs]bool
	reads, writes [api.MaxGlobals]bool
}

func (d *deeds) uses(global int) bool { return d.reads[global] || d.writes[global] }

// add adds what another function does.
func (d *deeds) add(other *deeds) {
	for i := range d.calls {
		d.calls[i] = d.calls[i] || other.calls[i]
	}
	for i := range d.reads {
		d.reads[i] = d.reads[i] || other.reads[i]
		d.writes[i] = d.writes[i] || other.writes[i]
	}
}

// call is a call and the index of the function that is called.
type call struct {
	path   []int
	callee int
	args   []api.Expr
}

// web is how the functions of a program hang together; no node of it has a flaw.
type web struct {
	program        *api.Program
	funcs, globals map[string]int // indices
	own, whole     []deeds        // of each function, without and with those that it reaches
	calls          []call         // in the order of nodes
	path           []int          // of the node that is looked at
}

func connect(p *api.Program) *web {
	w := &web{program: p, funcs: map[string]int{}, globals: map[string]int{}, own: make([]deeds, len(p.Funcs))}
	for i, g := range p.Globals {
		w.globals[g.Name] = i
	}
	for i, f := range p.Funcs {
		w.funcs[f.Name] = i
	}
	for i, f := range p.Funcs {
		w.path = append(w.path[:0], i)
		w.stmts(&w.own[i], f.Body)
	}
	w.whole = slices.Clone(w.own)
	for through := range w.whole {
		for i := range w.whole {
			if w.whole[i].calls[through] {
				w.whole[i].add(&w.whole[through])
			}
		}
	}
	return w
}

func (w *web) stmts(d *deeds, list []api.Stmt) {
	for i, x := range list {
		w.path = append(w.path, i)
		if g, ok := w.globals[x.Name]; ok { // of a StSet or StPut: what is declared has another name
			d.writes[g] = true
		}
		w.exprs(d, x.Exprs, 2)
		w.path = append(w.path, 0)
		w.stmts(d, x.Body)
		w.path[len(w.path)-1] = 1
		w.stmts(d, x.Else)
		w.path = w.path[:len(w.path)-2]
	}
}

// exprs looks at expressions to which the steps from first on lead.
func (w *web) exprs(d *deeds, list []api.Expr, first int) {
	for i, x := range list {
		w.path = append(w.path, first+i)
		if x.Kind == api.ExCall {
			w.call(d, x)
		} else if g, ok := w.globals[x.Name]; ok {
			d.reads[g] = true
		}
		w.exprs(d, x.Args, 0)
		w.path = w.path[:len(w.path)-1]
	}
}

func (w *web) call(d *deeds, x api.Expr) {
	c := call{path: slices.Clone(w.path), callee: w.funcs[x.Name], args: x.Args}
	w.calls = append(w.calls, c)
	d.calls[c.callee] = true
	for _, array := range w.arrays(c) {
		if g, ok := w.globals[array]; ok {
			d.writes[g] = true
		}
	}
}

// arrays returns the names of the arguments of a call that are arrays.
func (w *web) arrays(c call) []string {
	var names []string
	for i, p := range w.program.Funcs[c.callee].Params {
		if p.Type.Len > 0 {
			names = append(names, c.args[i].Name)
		}
	}
	return names
}

// shares reports whether two names would stand for one array in the function that is called.
func (w *web) shares(c call) bool {
	names := w.arrays(c)
	for i, name := range names {
		if slices.Contains(names[:i], name) {
			return true
		}
		if g, ok := w.globals[name]; ok && w.whole[c.callee].uses(g) {
			return true
		}
	}
	return false
}

func (w *web) firstCycle() api.Flaw {
	for i, d := range w.whole {
		if d.calls[i] {
			return api.Flaw{Code: api.FlCycle, Path: []int{i}}
		}
	}
	return api.Flaw{}
}

func (w *web) firstShared() api.Flaw {
	for _, c := range w.calls {
		if w.shares(c) {
			return api.Flaw{Code: api.FlShared, Path: c.path}
		}
	}
	return api.Flaw{}
}

// calledFirst returns an order in which each function comes after all that it calls. No function reaches itself.
func calledFirst(calls [][]int) []int {
	var order []int
	var put func(f int)
	put = func(f int) {
		if slices.Contains(order, f) {
			return
		}
		for _, g := range calls[f] {
			put(g)
		}
		order = append(order, f)
	}
	for f := range calls {
		put(f)
	}
	return order
}

// indices returns those of the members of a set.
func indices(set []bool) []int {
	var list []int
	for i, in := range set {
		if in {
			list = append(list, i)
		}
	}
	return list
}
