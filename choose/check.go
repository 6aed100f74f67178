package choose

import (
	"slices"

	"cupel/api"
)

// Limits of virtual code that have no names elsewhere.
const (
	mostInstrs = 20000 // of a function
	mostArgs   = 2 * api.MaxIParams
	mostWords  = 1000
)

func isLong(v api.VCode) bool {
	return len(v.Funcs) > api.MaxIFuncs || v.Words > mostWords || len(v.Data) > v.Words || slices.ContainsFunc(v.Funcs, isLongFunc)
}

func isLongFunc(f api.VFunc) bool {
	if hasManyRegisters(f) || f.Args > mostArgs || len(f.Blocks) > api.MaxIBlocks || len(f.Locals) > api.MaxIArrays {
		return true
	}
	instrs := 0
	for _, list := range f.Blocks {
		instrs += len(list)
	}
	return instrs > mostInstrs || slices.ContainsFunc(f.Locals, func(length int) bool { return length > api.MaxILen })
}

func hasManyRegisters(f api.VFunc) bool { return f.Regs > api.MaxVRegs }

// isValid is asked of virtual code that is not long only.
func isValid(v api.VCode) bool {
	if !isIndex(int64(v.Main), len(v.Funcs)) || v.Funcs[v.Main].Args > 0 {
		return false
	}
	for _, f := range v.Funcs {
		c := checker{len(v.Funcs), f}
		if !isHead(f) || !c.areBlocks() {
			return false
		}
	}
	return callsEnd(v.Funcs)
}

func isIndex(i int64, length int) bool { return i >= 0 && i < int64(length) }

// isHead reports whether a function is valid but for what its blocks contain.
func isHead(f api.VFunc) bool {
	return f.Regs >= 0 && f.Args >= 0 && len(f.Blocks) > 0 && !slices.ContainsFunc(f.Locals, func(length int) bool { return length < 1 })
}

// callsEnd reports whether no function can be called from itself: functions whose calls are known to end are added, until there are no more of them.
func callsEnd(list []api.VFunc) bool {
	end := map[int]bool{}
	for again := true; again; {
		again = false
		for i, f := range list {
			if !end[i] && callsOnly(f, end) {
				end[i], again = true, true
			}
		}
	}
	return len(end) == len(list)
}

// callsOnly reports whether a function calls some functions only.
func callsOnly(f api.VFunc, some map[int]bool) bool {
	for _, list := range f.Blocks {
		for _, x := range list {
			if x.Op == api.VcCall && !some[int(x.Imm)] {
				return false
			}
		}
	}
	return true
}
