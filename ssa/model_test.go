package ssa_test

import (
	"fmt"
	"slices"

	"cupel/api"
	"cupel/flow"
)

// The model says what the chapter does by its definitions: it looks each operand up from where it stands. The graph of the blocks is that of package flow.

// site is a place of a function: an instruction, the end, which comes after all of them, or the beginning (-1), where phis are to stand.
type site struct{ block, index int }

// modelOperands returns the operands of an instruction.
func modelOperands(x api.Instr) []api.Opd {
	switch x.Op {
	case api.IxCopy, api.IxLoad, api.IxPut, api.IxPrint:
		return []api.Opd{x.A}
	case api.IxBin, api.IxCheck, api.IxStore:
		return []api.Opd{x.A, x.B}
	case api.IxCall, api.IxPhi:
		return x.Args
	}
	return nil
}

// endOperand returns the operand of an end, if it has one.
func endOperand(f api.IFunc, b int) []api.Opd {
	if end := f.Blocks[b].End; end.Op == api.TmBranch || end.Op == api.TmReturn && f.Result {
		return []api.Opd{end.A}
	}
	return nil
}

// sitesOf returns where a register is defined.
func sitesOf(f api.IFunc, r int) []site {
	var list []site
	for b, block := range f.Blocks {
		for i, x := range block.Code {
			if x.To == r {
				list = append(list, site{b, i})
			}
		}
	}
	return list
}

// above is the path from the block 0 to a block that is reached, by immediate dominators.
func above(g api.Graph, b int) []int {
	if b == 0 {
		return []int{0}
	}
	return append(above(g, g.Idom[b]), b)
}

// isDefined reports whether an operand may stand at a site of a block that is reached.
func isDefined(f api.IFunc, g api.Graph, o api.Opd, at site) bool {
	if o.Reg < f.Params {
		return true
	}
	path := above(g, at.block)
	return slices.ContainsFunc(sitesOf(f, o.Reg), func(s site) bool {
		if s.block == at.block {
			return s.index < at.index
		}
		return slices.Contains(path, s.block)
	})
}

// behind is the end of a block.
func behind(f api.IFunc, b int) site { return site{b, len(f.Blocks[b].Code)} }

// wrongOperand finds an operand that must not stand where it does.
func wrongOperand(m api.Module, k int) (string, bool) {
	f := m.Funcs[k]
	g, _ := flow.Make(m, k)
	for _, b := range g.Order {
		for i, x := range f.Blocks[b].Code {
			for j, o := range modelOperands(x) {
				at := site{b, i}
				if x.Op == api.IxPhi {
					at = behind(f, x.From[j])
				}
				if slices.Contains(g.Order, at.block) && !isDefined(f, g, o, at) {
					return fmt.Sprint(o, at), true
				}
			}
		}
		for _, o := range endOperand(f, b) {
			if !isDefined(f, g, o, behind(f, b)) {
				return fmt.Sprint(o, b), true
			}
		}
	}
	return "", false
}

func modelCheck(m api.Module, k int) api.Errno {
	f := m.Funcs[k]
	for r := range f.Regs {
		most := 1
		if r < f.Params {
			most = 0
		}
		if len(sitesOf(f, r)) > most {
			return api.ErrDown
		}
	}
	if _, wrong := wrongOperand(m, k); wrong {
		return api.ErrDown
	}
	return api.OK
}

// selected is a module in which a function has these blocks of it alone, in this order; in phis, one block may stand for another one.
func selected(m api.Module, k int, order []int, other map[int]int) api.Module {
	old := m.Funcs[k]
	f := old
	f.Blocks = nil
	for _, b := range order {
		block := old.Blocks[b]
		block.Code = nil
		for _, x := range old.Blocks[b].Code {
			block.Code = append(block.Code, selectedPhi(x, order, other))
		}
		if block.End.Op == api.TmJump || block.End.Op == api.TmBranch {
			block.End.To = slices.Index(order, block.End.To)
		}
		if block.End.Op == api.TmBranch {
			block.End.Else = slices.Index(order, block.End.Else)
		}
		f.Blocks = append(f.Blocks, block)
	}
	m.Funcs = slices.Clone(m.Funcs)
	m.Funcs[k] = f
	return m
}

func selectedPhi(x api.Instr, order []int, other map[int]int) api.Instr {
	if x.Op != api.IxPhi {
		return x
	}
	made := api.Instr{Op: api.IxPhi, To: x.To}
	for n, b := range order {
		for i, from := range x.From {
			if stand, is := other[from]; is {
				from = stand
			}
			if from == b {
				made.From, made.Args = append(made.From, n), append(made.Args, x.Args[i])
			}
		}
	}
	return made
}

func withoutOthers(m api.Module, k int) api.Module {
	g, _ := flow.Make(m, k)
	return selected(m, k, slices.Sorted(slices.Values(g.Order)), nil)
}

// lookup finds what stands for registers in a function that gets phis.
type lookup struct {
	f         api.IFunc
	g         api.Graph
	phis      []map[int]bool // for each block, the registers for which it gets phis
	number    map[[3]int]int // what is defined: by the phi of a register in a block (the register, the block, -1), or by an instruction (-1, the block, the index)
	undefined int64
}

// modelPhis adds blocks until each set has what it has to.
func (l *lookup) modelPhis(live [][]int) {
	l.phis = make([]map[int]bool, len(l.f.Blocks))
	for b := range l.phis {
		l.phis[b] = map[int]bool{}
	}
	for r := range l.f.Regs {
		for again := true; again; {
			again = false
			for a := range l.phis {
				defines := l.phis[a][r] || slices.ContainsFunc(sitesOf(l.f, r), func(s site) bool { return s.block == a })
				for _, b := range l.g.Front[a] {
					if defines && slices.Contains(live[b], r) && !l.phis[b][r] {
						l.phis[b][r], again = true, true
					}
				}
			}
		}
	}
}

// numbers gives numbers to all that is defined. Blocks that go depth first are in the order of their paths.
func (l *lookup) numbers() {
	l.number = map[[3]int]int{}
	var order []int
	for b := range l.f.Blocks {
		order = append(order, b)
	}
	slices.SortFunc(order, func(a, b int) int { return slices.Compare(above(l.g, a), above(l.g, b)) })
	for _, b := range order {
		for r := range l.f.Regs {
			if l.phis[b][r] {
				l.number[[3]int{r, b, -1}] = l.f.Params + len(l.number)
			}
		}
		for i, x := range l.f.Blocks[b].Code {
			if x.To >= 0 {
				l.number[[3]int{-1, b, i}] = l.f.Params + len(l.number)
			}
		}
	}
}

// at returns what stands for an operand, going back from a site.
func (l *lookup) at(o api.Opd, s site) api.Opd {
	if o.Reg < 0 {
		return o
	}
	for i := s.index - 1; i >= 0; i-- {
		if l.f.Blocks[s.block].Code[i].To == o.Reg {
			return api.Opd{Reg: l.number[[3]int{-1, s.block, i}]}
		}
	}
	switch {
	case l.phis[s.block][o.Reg]:
		return api.Opd{Reg: l.number[[3]int{o.Reg, s.block, -1}]}
	case s.block > 0:
		return l.at(o, behind(l.f, l.g.Idom[s.block]))
	case o.Reg < l.f.Params:
		return o
	}
	return api.Opd{Reg: -1, Imm: l.undefined}
}

// list returns what stands for operands.
func (l *lookup) list(of []api.Opd, s site) []api.Opd {
	var made []api.Opd
	for _, o := range of {
		made = append(made, l.at(o, s))
	}
	return made
}

// withOperands is an instruction with other operands.
func withOperands(x api.Instr, list []api.Opd) api.Instr {
	switch x.Op {
	case api.IxCall, api.IxPhi:
		x.Args = list
	case api.IxBin, api.IxCheck, api.IxStore:
		x.A, x.B = list[0], list[1]
	case api.IxCopy, api.IxLoad, api.IxPut, api.IxPrint:
		x.A = list[0]
	}
	return x
}

// block is a block of the function as it becomes.
func (l *lookup) block(b int) api.Block {
	made := api.Block{End: l.f.Blocks[b].End}
	for r := range l.f.Regs {
		if l.phis[b][r] {
			x := api.Instr{Op: api.IxPhi, To: l.number[[3]int{r, b, -1}], From: l.g.Preds[b]}
			for _, p := range x.From {
				x.Args = append(x.Args, l.at(api.Opd{Reg: r}, behind(l.f, p)))
			}
			made.Code = append(made.Code, x)
		}
	}
	for i, x := range l.f.Blocks[b].Code {
		x = withOperands(x, l.list(modelOperands(x), site{b, i}))
		if x.To >= 0 {
			x.To = l.number[[3]int{-1, b, i}]
		}
		made.Code = append(made.Code, x)
	}
	for _, o := range endOperand(l.f, b) {
		made.End.A = l.at(o, behind(l.f, b))
	}
	return made
}

// isLong reports whether a function is longer than allowed.
func isLong(f api.IFunc) bool {
	count := 0
	for _, b := range f.Blocks {
		count += len(b.Code)
	}
	return count > api.MaxInstrs || f.Regs > api.MaxRegs || len(f.Blocks) > api.MaxIBlocks
}

func modelInto(m api.Module, k int, undefined int64) (api.Module, bool) {
	m = withoutOthers(m, k)
	g, _ := flow.Make(m, k)
	live, _, _ := flow.Live(m, k)
	l := &lookup{f: m.Funcs[k], g: g, undefined: undefined}
	l.modelPhis(live)
	l.numbers()
	f := &m.Funcs[k]
	f.Blocks, f.Regs = nil, f.Params+len(l.number)
	for b := range l.f.Blocks {
		f.Blocks = append(f.Blocks, l.block(b))
	}
	return m, isLong(*f)
}

func copyOf(to int, o api.Opd) api.Instr { return api.Instr{Op: api.IxCopy, To: to, A: o} }

// modelCopies makes copies all at once, none of which is of a register to itself.
func modelCopies(left []api.Instr, regs *int) []api.Instr {
	var made []api.Instr
	for len(left) > 0 {
		i := slices.IndexFunc(left, func(x api.Instr) bool {
			return !slices.ContainsFunc(left, func(y api.Instr) bool { return y.A.Reg == x.To })
		})
		if i < 0 {
			saved := left[0].To
			made = append(made, copyOf(*regs, api.Opd{Reg: saved}))
			for j := range left {
				if left[j].A.Reg == saved {
					left[j].A.Reg = *regs
				}
			}
			*regs++
			continue
		}
		made = append(made, left[i])
		left = slices.Delete(left, i, i+1)
	}
	return made
}

func modelOut(m api.Module, k int, oneByOne bool) (api.Module, bool) {
	old := m.Funcs[k]
	m = selected(m, k, numbersTo(len(old.Blocks)), nil)
	f := &m.Funcs[k]
	for b := range old.Blocks {
		f.Blocks[b].Code = slices.DeleteFunc(slices.Clone(f.Blocks[b].Code), func(x api.Instr) bool { return x.Op == api.IxPhi })
	}
	g, _ := flow.Make(m, k)
	for b, block := range old.Blocks {
		for i, p := range g.Preds[b] {
			var copies []api.Instr
			for _, x := range block.Code {
				if x.Op == api.IxPhi {
					copies = append(copies, copyOf(x.To, x.Args[i]))
				}
			}
			if len(copies) == 0 {
				continue
			}
			if !oneByOne {
				copies = slices.DeleteFunc(copies, func(x api.Instr) bool { return x.To == x.A.Reg })
				copies = modelCopies(copies, &f.Regs)
			}
			if len(g.Succs[p]) == 1 {
				f.Blocks[p].Code = append(f.Blocks[p].Code, copies...)
				continue
			}
			for _, to := range []*int{&f.Blocks[p].End.To, &f.Blocks[p].End.Else} {
				if *to == b {
					*to = len(f.Blocks)
				}
			}
			f.Blocks = append(f.Blocks, api.Block{Code: copies, End: api.Term{Op: api.TmJump, To: b}})
		}
	}
	return m, isLong(*f)
}

// numbersTo are the numbers from 0 on, so many.
func numbersTo(n int) []int {
	var list []int
	for i := range n {
		list = append(list, i)
	}
	return list
}

// modelJoint finds two blocks that are to be joined.
func modelJoint(m api.Module, k int) (b, to int, some bool) {
	g, _ := flow.Make(m, k)
	for b, block := range m.Funcs[k].Blocks {
		to := block.End.To
		if block.End.Op != api.TmJump || to == b || len(g.Preds[to]) != 1 {
			continue
		}
		tangled := false
		for i, x := range m.Funcs[k].Blocks[to].Code {
			for _, y := range m.Funcs[k].Blocks[to].Code[:i] {
				tangled = tangled || x.Op == api.IxPhi && x.Args[0].Reg == y.To
			}
		}
		if !tangled {
			return b, to, true
		}
	}
	return 0, 0, false
}

// joined is a module with two blocks joined.
func joined(m api.Module, k, b, to int) api.Module {
	blocks := slices.Clone(m.Funcs[k].Blocks)
	code := slices.Clone(blocks[b].Code)
	for _, x := range blocks[to].Code {
		if x.Op == api.IxPhi {
			x = copyOf(x.To, x.Args[0])
		}
		code = append(code, x)
	}
	blocks[b] = api.Block{Code: code, End: blocks[to].End}
	m.Funcs = slices.Clone(m.Funcs)
	m.Funcs[k].Blocks = blocks
	order := slices.DeleteFunc(numbersTo(len(blocks)), func(n int) bool { return n == to })
	return selected(m, k, order, map[int]int{to: b})
}

func modelTidy(m api.Module, k int) api.Module {
	m = withoutOthers(m, k)
	for {
		b, to, some := modelJoint(m, k)
		if !some {
			break
		}
		m = joined(m, k, b, to)
	}
	var order []int
	// Those that are to be entered, the last one first.
	for left := []int{0}; len(left) > 0; {
		b := left[len(left)-1]
		left = left[:len(left)-1]
		if slices.Contains(order, b) {
			continue
		}
		order = append(order, b)
		if end := m.Funcs[k].Blocks[b].End; end.Op == api.TmBranch {
			left = append(left, end.Else, end.To)
		} else if end.Op == api.TmJump {
			left = append(left, end.To)
		}
	}
	m = selected(m, k, order, nil)
	return renumbered(m, k)
}

// renumbered is a module whose registers of a function are numbered as they occur.
func renumbered(m api.Module, k int) api.Module {
	f := &m.Funcs[k]
	var seen []int
	for r := range f.Params {
		seen = append(seen, r)
	}
	number := func(r int) int {
		if r < 0 {
			return r
		}
		if !slices.Contains(seen, r) {
			seen = append(seen, r)
		}
		return slices.Index(seen, r)
	}
	operands := func(list []api.Opd) []api.Opd {
		var made []api.Opd
		for _, o := range list {
			made = append(made, api.Opd{Reg: number(o.Reg), Imm: o.Imm})
		}
		return made
	}
	for b := range f.Blocks {
		for i, x := range f.Blocks[b].Code {
			x = withOperands(x, operands(modelOperands(x)))
			x.To = number(x.To)
			f.Blocks[b].Code[i] = x
		}
		for _, o := range operands(endOperand(*f, b)) {
			f.Blocks[b].End.A = o
		}
	}
	f.Regs = len(seen)
	return m
}
