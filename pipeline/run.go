package pipeline

import (
	"cupel/api"
	"cupel/copies"
	"cupel/dead"
	"cupel/fold"
	"cupel/hoist"
	"cupel/inline"
	"cupel/parts"
	"cupel/peep"
	"cupel/ssa"
)

// work is what a pass does to a function of a module.
type work func(m api.Module, k int, x api.Limit) (api.Module, []api.Applied, api.Errno)

// works returns the passes by their numbers.
func works() map[int]work {
	return map[int]work{
		api.PsInto:   ssa.Into,
		api.PsOut:    ssa.Out,
		api.PsTidy:   ssa.Tidy,
		api.PsFold:   fold.Run,
		api.PsCopies: copies.Run,
		api.PsDead:   dead.Run,
		api.PsPeep:   peep.Run,
		api.PsHoist:  hoist.Run,
		api.PsInline: inline.Run,
	}
}

// runner is how far a module is, and what was made by each instance that was run.
type runner struct {
	m    api.Module
	made [][]api.Applied
}

// run runs instances, the last one with this limit, and closes all functions.
func (r *runner) run(list []api.Instance, x api.Limit) api.Errno {
	run := works()
	for n, i := range list {
		limit := x
		if n < len(list)-1 {
			limit.Most = -1
		}
		made, applied, e := run[i.Pass](r.m, i.Func, limit)
		if e != api.OK {
			return e
		}
		r.m, r.made = made, append(r.made, applied)
	}
	return r.close()
}

// close takes each function that has a phi out of static single assignment form. That is no instance, so no fault may change what it does.
func (r *runner) close() api.Errno {
	for k := range r.m.Funcs {
		if !parts.HasPhi(r.m.Funcs[k]) {
			continue
		}
		made, _, e := ssa.Out(r.m, k, api.Limit{Most: -1})
		if e != api.OK {
			return e
		}
		r.m = made
	}
	return api.OK
}
