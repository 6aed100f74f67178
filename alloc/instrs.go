package alloc

import "cupel/api"

// coder writes the instructions of a function.
type coder struct {
	*writer
	*function
}

// instr writes the code for an instruction. If that leads to a block, the last instruction written does, and names the block.
func (c coder) instr(x api.VInstr) {
	a, b := c.operand(x.A, spareA), c.operand(x.B, spareB)
	c.body(x, api.MInstr{D: c.register(x.D, spareA), A: a, B: b, Imm: x.Imm})
	if c.isSpilled(x.D) {
		c.add(api.MInstr{Op: api.MoStore, A: frameAt, B: spareA, Imm: c.places[x.D]})
	}
}

func (c coder) isSpilled(r int) bool { return r != none && c.machine[r] == none }

// register returns the one of the machine for a register, which is a spare one if that is spilled, and 0 if there is none.
func (c coder) register(r, spare int) int {
	switch {
	case r == none:
		return 0
	case c.isSpilled(r):
		return spare
	}
	return c.machine[r]
}

// operand returns the register of the machine for one that is read, and loads it if it is spilled.
func (c coder) operand(r, spare int) int {
	if c.isSpilled(r) {
		c.add(api.MInstr{Op: api.MoLoad, D: spare, A: frameAt, Imm: c.places[r]})
	}
	return c.register(r, spare)
}

// body writes the code for an instruction without what its registers need. The other one has the fields of an instruction of the same name.
func (c coder) body(x api.VInstr, same api.MInstr) {
	switch x.Op {
	case api.VcLocal:
		c.add(api.MInstr{Op: api.MoBinI + api.IbAdd, D: same.D, A: frameAt, Imm: c.locals[x.Imm]})
	case api.VcParam:
		c.add(api.MInstr{Op: api.MoLoad, D: same.D, A: frameAt, Imm: x.Imm})
	case api.VcArg:
		c.add(api.MInstr{Op: api.MoStore, A: frameAt, B: same.A, Imm: c.size + x.Imm})
	case api.VcCall:
		c.call(x)
	case api.VcResult:
		c.add(api.MInstr{Op: api.MoMove, D: same.D, A: result})
	case api.VcReturn:
		if x.A != none {
			c.add(api.MInstr{Op: api.MoMove, D: result, A: same.A})
		}
		c.add(api.MInstr{Op: api.MoReturn})
	default:
		same.Op = sameOp(x)
		c.add(same)
	}
}

// call writes a call, for which the frame of the function that is called stands behind this one.
func (c coder) call(x api.VInstr) {
	c.add(api.MInstr{Op: api.MoBinI + api.IbAdd, D: frameAt, A: frameAt, Imm: c.size})
	c.add(api.MInstr{Op: api.MoCall, Imm: x.Imm})
	c.add(api.MInstr{Op: api.MoBinI + api.IbSub, D: frameAt, A: frameAt, Imm: c.size})
}

var sameOps = [...]int{
	api.VcMove:   api.MoMove,
	api.VcSet:    api.MoSet,
	api.VcLoad:   api.MoLoad,
	api.VcStore:  api.MoStore,
	api.VcCheck:  api.MoCheck,
	api.VcCheckI: api.MoCheckI,
	api.VcPrint:  api.MoPrint,
	api.VcZero:   api.MoZero,
	api.VcJump:   api.MoJump,
	api.VcTrap:   api.MoTrap,
}

// sameOp returns the Op of the machine for an instruction that needs no other fields there.
func sameOp(x api.VInstr) int {
	switch {
	case x.Op > api.VcBinI:
		return x.Op - api.VcBinI + api.MoBinI
	case x.Op > api.VcBin:
		return x.Op - api.VcBin + api.MoBin
	case x.Op == api.VcSet && x.Imm != int64(int32(x.Imm)):
		return api.MoWide
	}
	return sameOps[x.Op]
}
