package choose

import (
	"cupel/api"
	"cupel/texts"
)

// checker looks at the blocks of a function, of so many.
type checker struct {
	funcs int
	f     api.VFunc
}

// shape says which registers an operation names.
type shape struct{ d, a, b bool }

var shapes = [...]shape{
	api.VcMove:   {d: true, a: true},
	api.VcSet:    {d: true},
	api.VcLoad:   {d: true, a: true},
	api.VcStore:  {a: true, b: true},
	api.VcLocal:  {d: true},
	api.VcCheck:  {a: true, b: true},
	api.VcCheckI: {a: true},
	api.VcPrint:  {a: true},
	api.VcParam:  {d: true},
	api.VcArg:    {a: true},
	api.VcCall:   {},
	api.VcResult: {d: true},
	api.VcZero:   {a: true},
	api.VcJump:   {},
	api.VcReturn: {a: true},
	api.VcTrap:   {},
}

// shapeOf returns the shape of an Op, and false if there is no such Op.
func shapeOf(op int) (shape, bool) {
	switch {
	case op >= api.VcMove && op <= api.VcTrap:
		return shapes[op], true
	case texts.IsOperation(op - api.VcBin):
		return shape{d: true, a: true, b: true}, true
	case isBinI(op):
		return shape{d: true, a: true}, true
	}
	return shape{}, false
}

func isBinI(op int) bool { return texts.IsOperation(op - api.VcBinI) }

func (c checker) areBlocks() bool {
	for _, list := range c.f.Blocks {
		if len(list) == 0 {
			return false
		}
		for i, x := range list {
			if !c.isInstr(x) || !isOrdered(list, i) {
				return false
			}
		}
	}
	return true
}

// isOrdered reports whether an instruction may stand where it does in its block.
func isOrdered(list []api.VInstr, i int) bool {
	last := i == len(list)-1
	switch list[i].Op {
	case api.VcJump, api.VcReturn, api.VcTrap:
		return last
	case api.VcZero:
		return !last && list[i+1].Op == api.VcJump
	}
	return !last
}

func (c checker) isInstr(x api.VInstr) bool {
	s, known := shapeOf(x.Op)
	noResult := x.Op == api.VcReturn && x.A == none
	return known && c.isReg(x.D, s.d) && (c.isReg(x.A, s.a) || noResult) && c.isReg(x.B, s.b) && c.isImm(x)
}

// isReg reports whether a field is a register if one is named, and none otherwise.
func (c checker) isReg(r int, named bool) bool {
	if !named {
		return r == none
	}
	return isIndex(int64(r), c.f.Regs)
}

func (c checker) isImm(x api.VInstr) bool {
	switch x.Op {
	case api.VcSet:
		return true
	case api.VcLoad, api.VcStore, api.VcCheckI:
		return isShort(x.Imm)
	case api.VcLocal:
		return isIndex(x.Imm, len(c.f.Locals))
	case api.VcParam:
		return isIndex(x.Imm, c.f.Args)
	case api.VcArg:
		return isIndex(x.Imm, mostArgs)
	case api.VcCall:
		return isIndex(x.Imm, c.funcs)
	case api.VcZero, api.VcJump:
		return isIndex(x.Imm, len(c.f.Blocks))
	}
	return isBinI(x.Op) && isShort(x.Imm) || x.Imm == 0
}
