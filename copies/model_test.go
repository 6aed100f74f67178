package copies_test

import (
	"fmt"
	"slices"

	"cupel/api"
	"cupel/parts"
)

// The model says what the chapter does by its definitions: at each place all that it asks for is looked for anew, in the whole function.

type model struct {
	m         api.Module
	f         *api.IFunc
	faults    []int
	order     []int    // the blocks that are reached, in reverse postorder
	dominates [][]bool // the first one the second one
}

// modelRun makes so many applications.
func modelRun(m api.Module, k int, x api.Limit) (api.Module, []api.Applied, api.Errno) {
	m = parts.Copy(m)
	d := newModel(m, k, x.Faults)
	var list []api.Applied
	for again := true; again; {
		again = false
		for _, b := range d.order {
			for i := 0; i <= len(d.f.Blocks[b].Code); {
				if len(list) == x.Most {
					return m, list, api.OK
				}
				rule := d.apply(b, i)
				if rule == 0 {
					i++
					continue
				}
				again = true
				a := api.Applied{Pass: api.PsCopies, Rule: rule, Func: k, Block: b, Index: i}
				if rule == 1 && i == len(d.f.Blocks[b].Code) {
					a.Index = -1
				}
				if list = append(list, a); len(list) > 4000 {
					return api.Module{}, nil, api.ErrLong
				}
			}
		}
	}
	return m, list, api.OK
}

func newModel(m api.Module, k int, faults []int) *model {
	d := &model{m: m, f: &m.Funcs[k], faults: faults}
	d.order = d.enter(0, -1, nil)
	slices.Reverse(d.order)
	for a := range d.f.Blocks {
		others := d.enter(0, a, nil)
		row := make([]bool, len(d.f.Blocks))
		for _, b := range d.order {
			row[b] = slices.Contains(d.order, a) && !slices.Contains(others, b)
		}
		d.dominates = append(d.dominates, row)
	}
	return d
}

// enter goes depth first from a block, but not to the block without, and returns which blocks it leaves.
func (d *model) enter(b, without int, left []int) []int {
	entered := map[int]bool{without: true}
	var walk func(b int)
	walk = func(b int) {
		if entered[b] {
			return
		}
		entered[b] = true
		var next []int
		switch t := d.f.Blocks[b].End; t.Op {
		case api.TmJump:
			next = []int{t.To}
		case api.TmBranch:
			next = []int{min(t.To, t.Else), max(t.To, t.Else)}
		}
		for _, to := range next {
			walk(to)
		}
		left = append(left, b)
	}
	walk(b)
	return left
}

// apply makes the first application that can be made at a place, and returns its rule.
func (d *model) apply(b, i int) int {
	block := &d.f.Blocks[b]
	if i == len(block.Code) {
		if end := &block.End; end.Op == api.TmBranch || end.Op == api.TmReturn && d.f.Result {
			return d.exchange([]*api.Opd{&end.A})
		}
		return 0
	}
	x := &block.Code[i]
	if rule := d.exchange(d.operands(x)); rule > 0 {
		return rule
	}
	switch x.Op {
	case api.IxPhi:
		if one, ok := d.single(*x, b); ok {
			phis := 0
			for phis < len(block.Code) && block.Code[phis].Op == api.IxPhi {
				phis++
			}
			made := api.Instr{Op: api.IxCopy, To: x.To, A: one}
			block.Code = slices.Concat(block.Code[:i], block.Code[i+1:phis], []api.Instr{made}, block.Code[phis:])
			return 2
		}
	case api.IxBin:
		for _, y := range d.above(b, i) {
			if y.Op == api.IxBin && d.key(y) == d.key(*x) {
				*x = api.Instr{Op: api.IxCopy, To: x.To, A: api.Opd{Reg: y.To}}
				return 3
			}
		}
	case api.IxCheck:
		for _, y := range d.above(b, i) {
			if y.Op == api.IxCheck && y.A == x.A && y.B == x.B {
				block.Code = slices.Concat(block.Code[:i], block.Code[i+1:])
				return 4
			}
		}
	case api.IxLoad:
		if is, ok := d.element(block.Code[:i], *x); ok {
			*x = api.Instr{Op: api.IxCopy, To: x.To, A: is}
			return 5
		}
	case api.IxGet:
		if is, ok := d.content(block.Code[:i], *x); ok {
			*x = api.Instr{Op: api.IxCopy, To: x.To, A: is}
			return 6
		}
	}
	return 0
}

// operands returns the operands of an instruction, but for those of phis that belong to blocks that are not reached.
func (d *model) operands(x *api.Instr) []*api.Opd {
	switch x.Op {
	case api.IxCopy, api.IxLoad, api.IxPut, api.IxPrint:
		return []*api.Opd{&x.A}
	case api.IxBin, api.IxCheck, api.IxStore:
		return []*api.Opd{&x.A, &x.B}
	}
	var list []*api.Opd
	for i := range x.Args {
		if x.Op == api.IxCall || slices.Contains(d.order, x.From[i]) {
			list = append(list, &x.Args[i])
		}
	}
	return list
}

// definition returns the instruction that defines a register, and its block, -1 if there is none.
func (d *model) definition(r int) (api.Instr, int) {
	for b, block := range d.f.Blocks {
		for _, x := range block.Code {
			if x.To == r && r >= 0 {
				return x, b
			}
		}
	}
	return api.Instr{}, -1
}

func (d *model) exchange(list []*api.Opd) int {
	for _, o := range list {
		if x, _ := d.definition(o.Reg); x.Op == api.IxCopy {
			*o = x.A
			return 1
		}
	}
	return 0
}

func (d *model) single(x api.Instr, b int) (api.Opd, bool) {
	others := map[api.Opd]bool{}
	for _, o := range x.Args {
		if o.Reg != x.To {
			others[o] = true
		}
	}
	if len(others) != 1 {
		return api.Opd{}, false
	}
	for o := range others {
		if o.Reg < d.f.Params {
			return o, true
		}
		_, home := d.definition(o.Reg)
		return o, home >= 0 && home != b && d.dominates[home][b]
	}
	return api.Opd{}, false
}

// above returns what is above a place, the nearest one first.
func (d *model) above(b, i int) []api.Instr {
	list := slices.Clone(d.f.Blocks[b].Code[:i])
	slices.Reverse(list)
	homes := []int{}
	for a := range d.f.Blocks {
		if a != b && d.dominates[a][b] {
			homes = append(homes, a)
		}
	}
	slices.SortFunc(homes, func(a, c int) int {
		if d.dominates[a][c] {
			return 1
		}
		return -1
	})
	for _, a := range homes {
		code := slices.Clone(d.f.Blocks[a].Code)
		slices.Reverse(code)
		list = append(list, code...)
	}
	return list
}

// key is the same for equal operations.
func (d *model) key(x api.Instr) string {
	pair := []string{fmt.Sprint(x.A), fmt.Sprint(x.B)}
	if slices.Contains([]int{api.IbAdd, api.IbMul, api.IbAnd, api.IbOr, api.IbXor, api.IbEq, api.IbNe}, x.Kind) || x.Kind == api.IbSub && slices.Contains(d.faults, api.FtMinus) {
		slices.Sort(pair)
	}
	return fmt.Sprint(x.Kind, pair)
}

// element returns what is loaded after some code.
func (d *model) element(code []api.Instr, x api.Instr) (api.Opd, bool) {
	for i := len(code) - 1; i >= 0; i-- {
		y := code[i]
		if y.Op == api.IxCall {
			break
		}
		if y.Array != x.Array || y.Op != api.IxLoad && y.Op != api.IxStore {
			continue
		}
		if y.A == x.A && y.Op == api.IxLoad {
			return api.Opd{Reg: y.To}, true
		}
		if y.A == x.A {
			return y.B, !d.isSmall(x.Array) || y.B.Reg < 0 && y.B.Imm == int64(uint8(y.B.Imm))
		}
		if y.Op == api.IxStore && !slices.Contains(d.faults, api.FtOverStore) {
			break
		}
	}
	return api.Opd{}, false
}

func (d *model) isSmall(array int) bool {
	if a := d.f.Arrays[array]; a.Kind != api.AyGlobal {
		return a.Small
	}
	return d.m.Arrays[d.f.Arrays[array].Global].Small
}

// content returns what is got after some code.
func (d *model) content(code []api.Instr, x api.Instr) (api.Opd, bool) {
	for i := len(code) - 1; i >= 0; i-- {
		switch y := code[i]; {
		case y.Op == api.IxCall && !slices.Contains(d.faults, api.FtOverCall):
			return api.Opd{}, false
		case y.Op == api.IxGet && y.Cell == x.Cell:
			return api.Opd{Reg: y.To}, true
		case y.Op == api.IxPut && y.Cell == x.Cell:
			return y.A, true
		}
	}
	return api.Opd{}, false
}
