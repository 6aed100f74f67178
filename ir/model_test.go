package ir_test

import (
	"regexp"
	"slices"
	"strings"

	"cupel/api"
)

// model says of a module what Check is to say, clause by clause. It keeps what is wrong, and is asked of any module.
type model struct {
	m     api.Module
	wrong []string
}

func modelCheck(m api.Module) (api.Errno, []string) {
	if modelLong(m) {
		return api.ErrLong, nil
	}
	k := &model{m: m}
	k.module()
	for _, f := range m.Funcs {
		k.function(f)
	}
	if len(k.wrong) == 0 {
		k.calls()
	}
	if len(k.wrong) > 0 {
		return api.ErrArg, k.wrong
	}
	return api.OK, nil
}

func modelLong(m api.Module) bool {
	long := len(m.Cells) > 40 || len(m.Arrays) > 20 || len(m.Funcs) > 20
	for _, f := range m.Funcs {
		n := 0
		for _, b := range f.Blocks {
			n += len(b.Code)
		}
		long = long || f.Regs > 300 || len(f.Arrays) > 20 || len(f.Blocks) > 60 || n > 400
	}
	return long
}

// want notes what is wrong, unless it is right.
func (k *model) want(right bool, what string) {
	if !right {
		k.wrong = append(k.wrong, what)
	}
}

var rightName = regexp.MustCompile(`^[A-Za-z][A-Za-z0-9_]{0,15}$`)

func (k *model) names(list []string) {
	count := map[string]int{}
	for _, n := range list {
		count[n]++
		k.want(rightName.MatchString(n) && n[len(n)-1] != '\n', "name")
		k.want(count[n] == 1, "name twice")
	}
}

func (k *model) module() {
	var cells, arrays, funcs []string
	for _, c := range k.m.Cells {
		cells = append(cells, c.Name)
	}
	for _, a := range k.m.Arrays {
		arrays = append(arrays, a.Name)
		k.want(0 < a.Len && a.Len < 17, "length of an array of the module")
	}
	for _, f := range k.m.Funcs {
		funcs = append(funcs, f.Name)
	}
	k.names(cells)
	k.names(arrays)
	k.names(funcs)
	if k.m.Main < 0 || k.m.Main >= len(k.m.Funcs) {
		k.want(false, "main")
		return
	}
	f := k.m.Funcs[k.m.Main]
	k.want(f.Params == 0 && !f.Result && len(params(f)) == 0, "head of main")
}

// params returns the indices of the arrays that a function is given.
func params(f api.IFunc) []int {
	var list []int
	for i, a := range f.Arrays {
		if a.Kind == api.AyParam {
			list = append(list, i)
		}
	}
	return list
}

func (k *model) function(f api.IFunc) {
	k.want(0 <= f.Params && f.Params <= 8, "Params")
	k.want(f.Params <= f.Regs, "Regs")
	k.want(len(params(f)) <= 8, "AyParam")
	k.want(len(f.Blocks) > 0, "no block")
	seen := map[int]bool{}
	for _, a := range f.Arrays {
		k.want(a.Kind >= api.AyLocal && a.Kind <= api.AyGlobal, "kind of an array")
		if a.Kind == api.AyGlobal {
			k.want(0 <= a.Global && a.Global < len(k.m.Arrays) && a.Len == 0 && !a.Small, "AyGlobal")
			k.want(!seen[a.Global], "AyGlobal twice")
			seen[a.Global] = true
		} else {
			k.want(0 < a.Len && a.Len < 17 && a.Global == 0, "array")
		}
	}
	for i, b := range f.Blocks {
		for j, x := range b.Code {
			k.instr(f, x)
			if x.Op == api.IxPhi {
				k.want(i > 0 && (j == 0 || b.Code[j-1].Op == api.IxPhi), "place of a phi")
				k.phi(f, i, x)
			}
		}
		k.end(f, b.End)
	}
}

func (k *model) opd(f api.IFunc, o api.Opd) {
	k.want(o.Reg == -1 || 0 <= o.Reg && o.Reg < f.Regs && o.Imm == 0, "operand")
}

func (k *model) phi(f api.IFunc, block int, x api.Instr) {
	var from []int
	for i, b := range f.Blocks {
		if leads(b.End, block) {
			from = append(from, i)
		}
	}
	k.want(slices.Equal(from, x.From) && len(x.Args) == len(from), "phi")
}

func (k *model) end(f api.IFunc, t api.Term) {
	used := api.Term{Op: t.Op}
	switch t.Op {
	case api.TmBranch:
		used.A, used.Else = t.A, t.Else
		k.opd(f, t.A)
		k.want(0 < t.Else && t.Else < len(f.Blocks), "Else")
		fallthrough
	case api.TmJump:
		used.To = t.To
		k.want(0 < t.To && t.To < len(f.Blocks), "To of an end")
	case api.TmReturn:
		if f.Result {
			used.A = t.A
			k.opd(f, t.A)
		}
	case api.TmTrap:
	default:
		k.want(false, "Op of an end")
	}
	k.want(t == used, "field of an end")
}

func (k *model) instr(f api.IFunc, x api.Instr) {
	uses := strings.Fields(map[int]string{
		api.IxCopy: "to A", api.IxBin: "kind to A B", api.IxCheck: "A B", api.IxLoad: "to A array", api.IxStore: "A B array",
		api.IxGet: "to cell", api.IxPut: "A cell", api.IxPrint: "A", api.IxCall: "call to func args arrays", api.IxPhi: "to args from",
	}[x.Op])
	has := func(word string) bool { return slices.Contains(uses, word) }
	k.want(len(uses) > 0, "Op")
	if has("to") {
		k.want(0 <= x.To && x.To < f.Regs || has("call") && x.To == -1, "To")
	} else {
		k.want(x.To == -1, "To that is not used")
	}
	for word, o := range map[string]api.Opd{"A": x.A, "B": x.B} {
		if has(word) {
			k.opd(f, o)
		} else {
			k.want(o == api.Opd{}, word)
		}
	}
	for _, o := range x.Args {
		k.opd(f, o)
	}
	index := func(word string, value, from, to int) {
		if has(word) {
			k.want(from <= value && value < to, word)
		} else {
			k.want(value == 0, word+" that is not used")
		}
	}
	index("kind", x.Kind, 1, 15)
	index("array", x.Array, 0, len(f.Arrays))
	index("cell", x.Cell, 0, len(k.m.Cells))
	index("func", x.Func, 0, len(k.m.Funcs))
	k.want(has("args") || len(x.Args) == 0, "Args")
	k.want(has("arrays") || len(x.Arrays) == 0, "Arrays")
	k.want(has("from") || len(x.From) == 0, "From")
	if has("call") && 0 <= x.Func && x.Func < len(k.m.Funcs) {
		k.call(f, x)
	}
}

func (k *model) call(f api.IFunc, x api.Instr) {
	callee := k.m.Funcs[x.Func]
	k.want(len(x.Args) == callee.Params, "arguments")
	k.want(callee.Result || x.To == -1, "result")
	wanted := params(callee)
	k.want(len(wanted) == len(x.Arrays), "arrays")
	count := map[int]int{}
	for i, a := range x.Arrays {
		count[a]++
		k.want(count[a] == 1, "array twice")
		if a < 0 || a >= len(f.Arrays) || i >= len(wanted) {
			k.want(false, "array of a call")
			continue
		}
		k.want(k.size(f.Arrays[a]) == k.size(callee.Arrays[wanted[i]]), "size of an array")
	}
}

// size is the length and Small of an array.
func (k *model) size(a api.Array) api.Array {
	if g := a.Global; a.Kind == api.AyGlobal && 0 <= g && g < len(k.m.Arrays) {
		return api.Array{Len: k.m.Arrays[g].Len, Small: k.m.Arrays[g].Small}
	}
	return api.Array{Len: a.Len, Small: a.Small}
}

// calls is asked of modules that are valid otherwise.
func (k *model) calls() {
	for i := range k.m.Funcs {
		k.want(k.deep(i) < len(k.m.Funcs), "cycle")
	}
	if len(k.wrong) > 0 {
		return
	}
	for _, f := range k.m.Funcs {
		for _, b := range f.Blocks {
			for _, x := range b.Code {
				for _, a := range x.Arrays {
					k.want(f.Arrays[a].Kind != api.AyGlobal || !k.namesArray(x.Func, f.Arrays[a].Global), "shared array")
				}
			}
		}
	}
}

// deep returns how many calls may be in each other in a function, at most as many as there are functions.
func (k *model) deep(i int) int {
	depth := make([]int, len(k.m.Funcs))
	for range len(k.m.Funcs) + 1 {
		for f := range k.m.Funcs {
			for _, g := range k.callees(f) {
				depth[f] = max(depth[f], min(depth[g]+1, len(k.m.Funcs)))
			}
		}
	}
	return depth[i]
}

func (k *model) callees(f int) []int {
	var list []int
	for _, b := range k.m.Funcs[f].Blocks {
		for _, x := range b.Code {
			if x.Op == api.IxCall {
				list = append(list, x.Func)
			}
		}
	}
	return list
}

func (k *model) namesArray(f, global int) bool {
	for _, a := range k.m.Funcs[f].Arrays {
		if a.Kind == api.AyGlobal && a.Global == global {
			return true
		}
	}
	return slices.ContainsFunc(k.callees(f), func(g int) bool { return k.namesArray(g, global) })
}
