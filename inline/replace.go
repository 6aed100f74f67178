package inline

import (
	"slices"

	"cupel/api"
	"cupel/parts"
)

// callee is a function, in memory of its own, that becomes a part of the one that calls it.
type callee struct {
	api.IFunc
	call   api.Instr
	block  int         // what its first block becomes
	reg    int         // likewise its first register
	stands map[int]int // the arrays of the calling function that stand for its own
}

// replaced returns the function f with what g does in place of the call of g at an index of a block.
func replaced(f, g api.IFunc, b, i int, faults []int) api.IFunc {
	code, end := f.Blocks[b].Code, f.Blocks[b].End
	c := callee{IFunc: parts.CopyFunc(g), call: code[i], block: len(f.Blocks), reg: f.Regs}
	f.Arrays, c.stands = join(f.Arrays, g.Arrays, c.call.Arrays)
	f.Regs += g.Regs
	f.Blocks = slices.Clone(f.Blocks)
	f.Blocks[b] = api.Block{Code: slices.Concat(code[:i], c.beginning(faults)), End: jump(c.block)}
	c.move()
	follow(&f, c.Blocks...)
	follow(&f, api.Block{Code: code[i+1:], End: end})
	return f
}

// join returns the arrays of a function with those behind them that it gets for one that it calls, and which of all these stand for those of that one. Given are those that the call gives.
func join(own, called []api.Array, given []int) ([]api.Array, map[int]int) {
	all, stands, globals := slices.Clone(own), map[int]int{}, map[int]int{}
	for i, a := range own {
		if a.Kind == api.AyGlobal {
			globals[a.Global] = i
		}
	}
	for i, a := range called {
		at, named := globals[a.Global]
		switch {
		case a.Kind == api.AyParam:
			stands[i], given = given[0], given[1:]
		case a.Kind == api.AyGlobal && named:
			stands[i] = at
		default:
			stands[i] = len(all)
			all = append(all, a)
		}
	}
	return all, stands
}

// beginning returns what has to be done before the first block: a call begins with its arguments, and zeros in all else that it has.
func (c callee) beginning(faults []int) []api.Instr {
	var code []api.Instr
	for r, value := range c.call.Args {
		code = append(code, assign(c.reg+r, value))
	}
	if !slices.Contains(faults, api.FtRegisters) {
		for r := c.Params; r < c.Regs; r++ {
			code = append(code, assign(c.reg+r, constant(0)))
		}
	}
	if !slices.Contains(faults, api.FtZeros) {
		for i, a := range c.Arrays {
			if a.Kind == api.AyLocal {
				code = append(code, clearing(c.stands[i], a.Len)...)
			}
		}
	}
	return code
}

// clearing returns the stores that make an array zeros.
func clearing(array, length int) []api.Instr {
	var code []api.Instr
	for i := range length {
		code = append(code, api.Instr{Op: api.IxStore, To: -1, Array: array, A: constant(i), B: constant(0)})
	}
	return code
}

// move gives all that the blocks name the numbers that it has in the calling function, and makes returns lead to the block behind them.
func (c callee) move() {
	operand := func(o *api.Opd) {
		if o.Reg >= 0 {
			o.Reg += c.reg
		}
	}
	for b := range c.Blocks {
		block := &c.Blocks[b]
		for i := range block.Code {
			c.moveInstr(&block.Code[i], operand)
		}
		for _, o := range parts.EndOperands(&block.End, c.Result) {
			operand(o)
		}
		switch end := &block.End; end.Op {
		case api.TmJump:
			end.To += c.block
		case api.TmBranch:
			end.To, end.Else = end.To+c.block, end.Else+c.block
		case api.TmReturn:
			if c.call.To >= 0 {
				block.Code = append(block.Code, assign(c.call.To, end.A))
			}
			*end = jump(c.block + len(c.Blocks))
		}
	}
}

func (c callee) moveInstr(x *api.Instr, operand func(o *api.Opd)) {
	for _, o := range parts.Operands(x) {
		operand(o)
	}
	if x.To >= 0 {
		x.To += c.reg
	}
	if x.Op == api.IxLoad || x.Op == api.IxStore {
		x.Array = c.stands[x.Array]
	}
	for i, a := range x.Arrays {
		x.Arrays[i] = c.stands[a]
	}
}

// follow puts blocks behind those of a function.
func follow(f *api.IFunc, blocks ...api.Block) { f.Blocks = append(f.Blocks, blocks...) }

func assign(to int, value api.Opd) api.Instr { return api.Instr{Op: api.IxCopy, To: to, A: value} }

func constant(n int) api.Opd { return api.Opd{Reg: -1, Imm: int64(n)} }

func jump(to int) api.Term { return api.Term{Op: api.TmJump, To: to} }
