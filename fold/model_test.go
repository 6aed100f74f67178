package fold_test

import (
	"slices"

	"cupel/api"
	"cupel/irsem"
	"cupel/parts"
)

// The model says what the chapter does by its definitions: facts are added, over and over, until all demands hold; then the first place where a rule can be applied is looked for, again after each application.

// values are those that a register may have: none, one, or any.
type values struct {
	any  bool
	list []int64
}

// with adds other ones; two different ones are any.
func (v values) with(o values) values {
	list := slices.Clone(v.list)
	for _, n := range o.list {
		if !slices.Contains(list, n) {
			list = append(list, n)
		}
	}
	if v.any || o.any || len(list) > 1 {
		return values{any: true}
	}
	return values{list: list}
}

// model has the facts about a function.
type model struct {
	f         api.IFunc
	faults    []int
	regs      []values
	blocks    []bool
	edges     [][]bool // from the first one to the second one
	isChanged bool
}

func newModel(f api.IFunc, faults []int) *model {
	d := &model{f: f, faults: faults, regs: make([]values, f.Regs), blocks: make([]bool, len(f.Blocks))}
	for range f.Blocks {
		d.edges = append(d.edges, make([]bool, len(f.Blocks)))
	}
	for r := range f.Params {
		d.regs[r].any = true
	}
	d.blocks[0] = true
	for d.isChanged = true; d.isChanged; {
		d.isChanged = false
		for b, block := range f.Blocks {
			if !d.blocks[b] {
				continue
			}
			for _, x := range block.Code {
				d.define(x, b)
			}
			for _, to := range d.leads(block.End) {
				d.isChanged = d.isChanged || !d.edges[b][to]
				d.edges[b][to], d.blocks[to] = true, true
			}
		}
	}
	return d
}

func (d *model) of(o api.Opd) values {
	if o.Reg < 0 {
		return values{list: []int64{o.Imm}}
	}
	return d.regs[o.Reg]
}

func (d *model) define(x api.Instr, b int) {
	if x.To < 0 {
		return
	}
	made := d.made(x, b)
	all := d.regs[x.To].with(made)
	if all.any != d.regs[x.To].any || len(all.list) != len(d.regs[x.To].list) {
		d.isChanged = true
		d.regs[x.To] = all
	}
}

func (d *model) made(x api.Instr, b int) values {
	switch x.Op {
	case api.IxCopy:
		return d.of(x.A)
	case api.IxBin:
		return d.operation(x.Kind, d.of(x.A), d.of(x.B))
	case api.IxPhi:
		if slices.Contains(d.faults, api.FtFirstOnly) {
			return d.of(x.Args[0])
		}
		var all values
		for i, from := range x.From {
			if d.edges[from][b] {
				all = all.with(d.of(x.Args[i]))
			}
		}
		return all
	}
	return values{any: true}
}

func (d *model) operation(kind int, a, b values) values {
	if a.any || b.any {
		return values{any: true}
	}
	if len(a.list) == 0 || len(b.list) == 0 {
		return values{}
	}
	v, trap, _ := irsem.Bin(kind, a.list[0], b.list[0])
	if kind == api.IbLt && a.list[0] == b.list[0] && slices.Contains(d.faults, api.FtEqualLess) {
		v = 1
	}
	if trap {
		return values{any: true}
	}
	return values{list: []int64{v}}
}

// leads returns the blocks to which the executable edges of an end lead.
func (d *model) leads(t api.Term) []int {
	switch t.Op {
	case api.TmJump:
		return []int{t.To}
	case api.TmBranch:
		by := d.of(t.A)
		if by.any {
			return []int{t.To, t.Else}
		}
		if len(by.list) > 0 {
			return []int{led(t, by.list[0])}
		}
	}
	return nil
}

func led(t api.Term, v int64) int {
	if v == 0 {
		return t.Else
	}
	return t.To
}

// modelRun makes so many applications.
func modelRun(m api.Module, k int, x api.Limit) (api.Module, []api.Applied, api.Errno) {
	m = parts.Copy(m)
	d := newModel(m.Funcs[k], x.Faults)
	var list []api.Applied
	for len(list) != x.Most {
		a, ok := d.apply()
		if !ok {
			break
		}
		a.Pass, a.Func = api.PsFold, k
		list = append(list, a)
	}
	m.Funcs[k] = d.f
	return m, list, api.OK
}

// operands returns the operands of an instruction, but for those of phis that belong to edges that are not executable.
func (d *model) operands(x *api.Instr, b int) []*api.Opd {
	var list []*api.Opd
	switch x.Op {
	case api.IxCopy, api.IxLoad, api.IxPut, api.IxPrint:
		return []*api.Opd{&x.A}
	case api.IxBin, api.IxCheck, api.IxStore:
		return []*api.Opd{&x.A, &x.B}
	case api.IxCall, api.IxPhi:
		for i := range x.Args {
			if x.Op == api.IxCall || d.edges[x.From[i]][b] {
				list = append(list, &x.Args[i])
			}
		}
	}
	return list
}

// apply makes the first application that can be made.
func (d *model) apply() (api.Applied, bool) {
	for b := range d.f.Blocks {
		if !d.blocks[b] {
			continue
		}
		block := &d.f.Blocks[b]
		for i := range block.Code {
			if d.exchange(d.operands(&block.Code[i], b)) {
				return api.Applied{Rule: 1, Block: b, Index: i}, true
			}
		}
		end := &block.End
		switch {
		case end.Op == api.TmReturn && !d.f.Result, end.Op == api.TmJump, end.Op == api.TmTrap:
		case d.exchange([]*api.Opd{&end.A}):
			return api.Applied{Rule: 1, Block: b, Index: -1}, true
		case end.Op == api.TmBranch && end.A.Reg == -1:
			d.jump(b)
			return api.Applied{Rule: 2, Block: b, Index: -1}, true
		}
	}
	return api.Applied{}, false
}

// exchange puts a constant in the place of the first operand that can have one.
func (d *model) exchange(list []*api.Opd) bool {
	for _, o := range list {
		if v := d.of(*o); o.Reg >= 0 && len(v.list) > 0 {
			*o = api.Opd{Reg: -1, Imm: v.list[0]}
			return true
		}
	}
	return false
}

// jump makes a jump of the end of a block; phis of other blocks forget it.
func (d *model) jump(b int) {
	end := d.f.Blocks[b].End
	to := led(end, end.A.Imm)
	d.f.Blocks[b].End = api.Term{Op: api.TmJump, To: to}
	for c, block := range d.f.Blocks {
		for i, x := range block.Code {
			if j := slices.Index(x.From, b); c != to && j >= 0 {
				x.Args = append(slices.Clone(x.Args[:j]), x.Args[j+1:]...)
				x.From = append(slices.Clone(x.From[:j]), x.From[j+1:]...)
				block.Code[i] = x
			}
		}
	}
}
