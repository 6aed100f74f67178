// Package parts has what passes on modules share: arguments that are right, records of applications, sweeps, copies of modules, counts, operands that can be changed, blocks in another order.
package parts

import (
	"slices"

	"cupel/api"
	"cupel/ir"
)

// Arguments returns the error that the arguments of a pass have, if there is one: that of the module, or ErrArg.
func Arguments(m api.Module, k int, x api.Limit) api.Errno {
	if e := ir.Check(m); e != api.OK {
		return e
	}
	if k < 0 || k >= len(m.Funcs) || !IsLimit(x) {
		return api.ErrArg
	}
	return api.OK
}

// Start returns a copy of a module for a pass to change, or the error of its arguments, or that of the check which the function has to pass.
func Start(m api.Module, k int, x api.Limit, check func(m api.Module, k int) api.Errno) (api.Module, api.Errno) {
	e := Arguments(m, k, x)
	if e == api.OK {
		e = check(m, k)
	}
	if e != api.OK {
		return api.Module{}, e
	}
	return Copy(m), api.OK
}

// IsLimit reports whether a limit is right.
func IsLimit(x api.Limit) bool { return x.Most >= -1 && AreFaults(x.Faults) }

// AreFaults reports whether a list consists of numbers of faults, ascending, each once.
func AreFaults(list []int) bool {
	last := 0
	for _, n := range list {
		if n <= last || n > api.MaxFaults {
			return false
		}
		last = n
	}
	return true
}

// Record is what a pass has made of a function: at most so many applications, or, if Most is -1, any number.
type Record struct {
	Pass, Func, Most int
	List             []api.Applied
}

// Add reports whether one more application may be made, and adds it then.
func (r *Record) Add(rule, block, index int) bool {
	if len(r.List) == r.Most {
		return false
	}
	r.List = append(r.List, api.Applied{Pass: r.Pass, Rule: rule, Func: r.Func, Block: block, Index: index})
	return true
}

// Bounded returns a record for a pass that may make MaxApply applications: there is room for one more, which IsLong reports.
func Bounded(pass, k, most int) Record {
	if most < 0 || most > api.MaxApply {
		most = api.MaxApply + 1
	}
	return Record{Pass: pass, Func: k, Most: most}
}

// IsLong reports whether there are more than MaxApply applications.
func (r Record) IsLong() bool { return len(r.List) > api.MaxApply }

// Sweep goes through these blocks of a function, and in each through the indices of its instructions and that behind them, which stands for its end. What changes something at a place reports that it has, and the same place is looked at again. Once something has changed there is another sweep.
func Sweep(f *api.IFunc, blocks []int, change func(b, i int) bool) {
	for again := true; again; {
		again = false
		for _, b := range blocks {
			for i := 0; i <= len(f.Blocks[b].Code); i++ {
				for change(b, i) {
					again = true
				}
			}
		}
	}
}

// Copy returns the same module in new memory.
func Copy(m api.Module) api.Module {
	m.Cells, m.Arrays, m.Funcs = slices.Clone(m.Cells), slices.Clone(m.Arrays), slices.Clone(m.Funcs)
	for i := range m.Funcs {
		m.Funcs[i] = CopyFunc(m.Funcs[i])
	}
	return m
}

// CopyFunc returns the same function in new memory.
func CopyFunc(f api.IFunc) api.IFunc {
	f.Arrays, f.Blocks = slices.Clone(f.Arrays), slices.Clone(f.Blocks)
	for b := range f.Blocks {
		f.Blocks[b].Code = copyCode(f.Blocks[b].Code)
	}
	return f
}

func copyCode(list []api.Instr) []api.Instr {
	list = slices.Clone(list)
	for i := range list {
		x := &list[i]
		x.Args, x.Arrays, x.From = slices.Clone(x.Args), slices.Clone(x.Arrays), slices.Clone(x.From)
	}
	return list
}

// Operands returns the operands of an instruction, in order.
func Operands(x *api.Instr) []*api.Opd {
	var list []*api.Opd
	switch x.Op {
	case api.IxCopy, api.IxLoad, api.IxPut, api.IxPrint:
		list = append(list, &x.A)
	case api.IxBin, api.IxCheck, api.IxStore:
		list = append(list, &x.A, &x.B)
	}
	for i := range x.Args {
		list = append(list, &x.Args[i])
	}
	return list
}

// EndOperands returns the operand of an end, if it has one; result says whether its function has one.
func EndOperands(t *api.Term, result bool) []*api.Opd {
	if t.Op == api.TmBranch || t.Op == api.TmReturn && result {
		return []*api.Opd{&t.A}
	}
	return nil
}

// Targets returns the blocks to which an end leads, each once, To before Else.
func Targets(t api.Term) []int {
	switch {
	case t.Op == api.TmJump, t.Op == api.TmBranch && t.To == t.Else:
		return []int{t.To}
	case t.Op == api.TmBranch:
		return []int{t.To, t.Else}
	}
	return nil
}

// Phis returns how many phis a block has.
func Phis(b api.Block) int {
	for i, x := range b.Code {
		if x.Op != api.IxPhi {
			return i
		}
	}
	return len(b.Code)
}

// HasPhi reports whether a function has a phi.
func HasPhi(f api.IFunc) bool {
	return slices.ContainsFunc(f.Blocks, func(b api.Block) bool { return Phis(b) > 0 })
}

// Instructions returns how many instructions a function has.
func Instructions(f api.IFunc) int {
	count := 0
	for _, b := range f.Blocks {
		count += len(b.Code)
	}
	return count
}

// Arrange gives a function these blocks of it alone, in this order. Ends lead to none of the others; what belongs to others in phis is left out.
func Arrange(f *api.IFunc, order []int) {
	number := map[int]int{}
	for i, b := range order {
		number[b] = i
	}
	blocks := make([]api.Block, len(order))
	for i, b := range order {
		blocks[i] = f.Blocks[b]
		end, phis := &blocks[i].End, blocks[i].Code[:Phis(f.Blocks[b])]
		switch end.Op {
		case api.TmJump:
			end.To = number[end.To]
		case api.TmBranch:
			end.To, end.Else = number[end.To], number[end.Else]
		}
		for j := range phis {
			arrangePhi(&phis[j], number)
		}
	}
	f.Blocks = blocks
}

// arrangePhi gives the blocks of a phi their new numbers, and leaves out those that have none.
func arrangePhi(x *api.Instr, number map[int]int) {
	args := map[int]api.Opd{}
	var from []int
	for i, b := range x.From {
		if n, kept := number[b]; kept {
			args[n] = x.Args[i]
			from = append(from, n)
		}
	}
	slices.Sort(from)
	x.From, x.Args = from, nil
	for _, n := range from {
		x.Args = append(x.Args, args[n])
	}
}
