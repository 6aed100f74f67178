package ir

import (
	"iter"

	"cupel/api"
)

// calling says of each two functions whether the first one calls the second one, directly or through others.
type calling [api.MaxIFuncs][api.MaxIFuncs]bool

// naming says of each function and each array of the module whether the function, or one that it calls, names the array.
type naming [api.MaxIFuncs][api.MaxIArrays]bool

// callsAreRight reports whether calls have no cycle, and give no array of the module to what names it. All instructions are valid.
func callsAreRight(m api.Module) bool {
	calls := callsOf(m)
	for i := range m.Funcs {
		if calls[i][i] {
			return false
		}
	}
	names := namesOf(m, calls)
	for _, f := range m.Funcs {
		for x := range callsIn(f) {
			for _, a := range x.Arrays {
				if f.Arrays[a].Kind == api.AyGlobal && names[x.Func][f.Arrays[a].Global] {
					return false
				}
			}
		}
	}
	return true
}

// callsIn goes through the calls of a function.
func callsIn(f api.IFunc) iter.Seq[api.Instr] {
	return func(yield func(api.Instr) bool) {
		for _, b := range f.Blocks {
			for _, x := range b.Code {
				if x.Op == api.IxCall && !yield(x) {
					return
				}
			}
		}
	}
}

func callsOf(m api.Module) calling {
	var calls calling
	for i, f := range m.Funcs {
		for x := range callsIn(f) {
			calls[i][x.Func] = true
		}
	}
	count := len(m.Funcs)
	for through := range count {
		for from := range count {
			for to := range count {
				if calls[from][through] && calls[through][to] {
					calls[from][to] = true
				}
			}
		}
	}
	return calls
}

func namesOf(m api.Module, calls calling) naming {
	var names naming
	for i := range m.Funcs {
		for j, f := range m.Funcs {
			if i != j && !calls[i][j] {
				continue
			}
			for _, a := range f.Arrays {
				if a.Kind == api.AyGlobal {
					names[i][a.Global] = true
				}
			}
		}
	}
	return names
}
