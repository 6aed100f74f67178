package ir

import (
	"slices"

	"cupel/api"
)

// Check returns ErrLong if there is more of something than allowed, then ErrArg if the module is not valid.
func Check(m api.Module) api.Errno {
	if isLong(m) {
		return api.ErrLong
	}
	if !isValid(m) {
		return api.ErrArg
	}
	return api.OK
}

func isLong(m api.Module) bool {
	return len(m.Cells) > api.MaxICells || len(m.Arrays) > api.MaxIArrays || len(m.Funcs) > api.MaxIFuncs || slices.ContainsFunc(m.Funcs, isLongFunc)
}

func isLongFunc(f api.IFunc) bool {
	if f.Regs > api.MaxRegs || len(f.Arrays) > api.MaxIArrays || len(f.Blocks) > api.MaxIBlocks {
		return true
	}
	instrs := 0
	for _, b := range f.Blocks {
		instrs += len(b.Code)
	}
	return instrs > api.MaxInstrs
}

// isValid is asked of modules that are not long only.
func isValid(m api.Module) bool {
	if !areNamed(m.Cells, func(c api.Cell) string { return c.Name }) ||
		!areNamed(m.Arrays, func(a api.GArray) string { return a.Name }) ||
		!areNamed(m.Funcs, func(f api.IFunc) string { return f.Name }) {
		return false
	}
	for _, a := range m.Arrays {
		if !isLength(a.Len) {
			return false
		}
	}
	for _, f := range m.Funcs {
		if !isHead(m, f) {
			return false
		}
	}
	if !isIndex(m.Main, len(m.Funcs)) || !isMain(m.Funcs[m.Main]) {
		return false
	}
	for _, f := range m.Funcs {
		c := checker{m: m, f: f}
		if !c.areEnds() || !c.isCode() {
			return false
		}
	}
	return callsAreRight(m)
}

// areNamed reports whether all have names, no two of them the same.
func areNamed[T any](list []T, nameOf func(T) string) bool {
	seen := map[string]bool{}
	for _, x := range list {
		name := nameOf(x)
		if !isName(name) || seen[name] {
			return false
		}
		seen[name] = true
	}
	return true
}

func isName(s string) bool {
	t := tokens().Scan(s, 0)
	return isNameToken(t) && t.Text == s
}

func isLength(n int) bool { return n >= 1 && n <= api.MaxILen }

func isIndex(i, length int) bool { return i >= 0 && i < length }

func isMain(f api.IFunc) bool {
	return f.Params == 0 && !f.Result && len(paramArrays(f)) == 0
}

// isHead reports whether a function is valid but for its blocks.
func isHead(m api.Module, f api.IFunc) bool {
	if f.Params < 0 || f.Params > api.MaxIParams || f.Regs < f.Params || len(f.Blocks) == 0 {
		return false
	}
	for i, a := range f.Arrays {
		if !isArray(m, a) || a.Kind == api.AyGlobal && slices.Contains(f.Arrays[:i], a) {
			return false
		}
	}
	return len(paramArrays(f)) <= api.MaxIParams
}

func isArray(m api.Module, a api.Array) bool {
	switch a.Kind {
	case api.AyLocal, api.AyParam:
		return isLength(a.Len) && a.Global == 0
	case api.AyGlobal:
		return isIndex(a.Global, len(m.Arrays)) && a.Len == 0 && !a.Small
	}
	return false
}

// paramArrays returns the arrays that callers give, in order.
func paramArrays(f api.IFunc) []api.Array {
	var list []api.Array
	for _, a := range f.Arrays {
		if a.Kind == api.AyParam {
			list = append(list, a)
		}
	}
	return list
}
