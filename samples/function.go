package samples

import (
	"slices"
	"strconv"

	"cupel/api"
	"cupel/flow"
	"cupel/parts"
	"cupel/ssa"
)

// maker draws a function in static single assignment form: first its graph, then what its instructions are, and then operands that may stand where they do.
type maker struct {
	*Dice
	f     *api.IFunc
	g     api.Graph
	sites []site // where the registers after the parameters are defined
	most  int    // how likely operations are, besides all other instructions

	chained map[*api.Instr]bool // operations that are in a chain
}

type site struct{ block, index int }

// Function makes a module like those of Of whose function 0 has so many blocks, and is in static single assignment form.
func Function(t T, seed uint64, blocks int) api.Module {
	t.Helper()
	dice := NewDice(seed)
	head := strconv.Itoa(dice.IntN(3)) + " regs 2"
	if dice.IntN(3) > 0 {
		head += " result"
	}
	m := Of(t, head, "b0: trap;")
	f := &m.Funcs[0]
	f.Blocks = dice.ends(f.Result, blocks)
	g, _ := flow.Make(m, 0)
	k := maker{Dice: dice, f: f, g: g, most: 4 + 9*dice.IntN(2)}
	for b := range blocks {
		k.code(b)
	}
	f.Regs = f.Params + len(k.sites) + k.IntN(3)
	for _, b := range k.g.Order {
		k.operands(b)
	}
	for b := range blocks {
		if !k.isReached(b) {
			k.operands(b)
		}
	}
	if k.IntN(2) == 0 {
		k.chains()
	}
	if e := ssa.Check(m, 0); e != api.OK {
		t.Fatalf("seed %d, %d blocks: error %d of %+v", seed, blocks, e, m)
	}
	return m
}

// ends draws blocks without instructions.
func (d *Dice) ends(result bool, blocks int) []api.Block {
	list := make([]api.Block, blocks)
	leaves := api.Term{Op: api.TmReturn}
	if result {
		leaves.A = api.Opd{Reg: -1}
	}
	style := d.IntN(3)
	for b := range list {
		end := &list[b].End
		kind := d.IntN(20)
		switch {
		case blocks > 1 && (b < blocks-1 && kind > 1 || kind > 13):
			to, other := d.target(style, b, blocks), d.target(style, b, blocks)
			if *end = (api.Term{Op: api.TmBranch, A: api.Opd{Reg: -1}, To: to, Else: other}); kind < 7 {
				*end = api.Term{Op: api.TmJump, To: to}
			}
		case kind == 0 && d.IntN(2) == 0:
			*end = api.Term{Op: api.TmTrap}
		default:
			*end = leaves
		}
	}
	return list
}

// target draws a block to which another one leads: in some functions mostly one behind it, in others one near to it, or any.
func (d *Dice) target(style, b, blocks int) int {
	switch {
	case style == 0 && b+1 < blocks && d.IntN(4) > 0:
		return b + 1 + d.IntN(min(4, blocks-b-1))
	case style == 1:
		return min(max(1, b-2+d.IntN(6)), blocks-1)
	}
	return 1 + d.IntN(blocks-1)
}

// code draws the instructions of a block, all operands being 0 as yet.
func (k *maker) code(b int) {
	var list []api.Instr
	if b > 0 {
		from := k.g.Preds[b]
		for range k.IntN(4) {
			list = append(list, api.Instr{Op: api.IxPhi, From: slices.Clone(from), Args: make([]api.Opd, len(from))})
		}
	}
	most := 8 // instructions; as many again in functions of few blocks
	if len(k.f.Blocks) < 8 {
		most = 20
	}
	for range k.IntN(most) {
		list = append(list, k.instr())
	}
	for i := range list {
		if list[i].To == 0 {
			list[i].To = k.f.Params + len(k.sites)
			k.sites = append(k.sites, site{b, i})
		}
	}
	k.f.Blocks[b].Code = list
}

// instr draws an instruction; To is 0 if it is to define a register.
func (k *maker) instr() api.Instr {
	list := []api.Instr{
		{Op: api.IxCopy},
		{Op: api.IxCopy},
		{Op: api.IxLoad, Array: k.IntN(4)},
		{Op: api.IxLoad, Array: k.IntN(4)},
		{Op: api.IxLoad, Array: k.IntN(4)},
		{Op: api.IxGet, Cell: k.IntN(2)},
		{Op: api.IxCall, To: k.IntN(2) - 1, Func: 2, Args: []api.Opd{{}, {}}, Arrays: []int{0}},
		{Op: api.IxCheck, To: -1},
		{Op: api.IxStore, To: -1, Array: k.IntN(4)},
		{Op: api.IxStore, To: -1, Array: k.IntN(4)},
		{Op: api.IxGet, Cell: k.IntN(2)},
		{Op: api.IxPut, To: -1, Cell: k.IntN(2)},
		{Op: api.IxPut, To: -1, Cell: k.IntN(2)},
		{Op: api.IxPut, To: -1, Cell: k.IntN(2)},
		{Op: api.IxPrint, To: -1},
		{Op: api.IxPrint, To: -1},
		{Op: api.IxPrint, To: -1},
	}
	if i := k.IntN(len(list) + k.most); i < len(list) {
		return list[i]
	}
	kinds := []int{api.IbAdd, api.IbSub, api.IbSub, api.IbSub, api.IbMul, api.IbDiv, api.IbRem, api.IbAnd, api.IbOr, api.IbXor, api.IbShl, api.IbShr, api.IbEq, api.IbNe, api.IbLt, api.IbLt, api.IbLt, api.IbLe}
	return api.Instr{Op: api.IxBin, Kind: kinds[k.IntN(len(kinds))]}
}

// operands draws the operands of a block.
func (k *maker) operands(b int) {
	block := &k.f.Blocks[b]
	for i := range block.Code {
		x, at := &block.Code[i], site{b, i}
		if x.Op == api.IxPhi {
			k.args(x, at)
			continue
		}
		for _, o := range parts.Operands(x) {
			*o = k.operand(at)
		}
		if x.Op == api.IxPrint && k.IntN(3) > 0 {
			x.A = k.latest(at, x.A)
		}
		if x.Op == api.IxCheck && k.IntN(4) > 0 {
			x.B = api.Opd{Reg: -1, Imm: 1 << 40}
		}
		if k.isReached(b) && k.IntN(3) > 0 {
			k.repeat(x, at)
		}
	}
	for _, o := range parts.EndOperands(&block.End, k.f.Result) {
		*o = k.operand(site{b, len(block.Code)})
	}
}

// args draws those of a phi: in some phis all the same one, or the phi itself.
func (k *maker) args(x *api.Instr, at site) {
	common, others := k.operand(site{at.block, 0}), k.IntN(3) > 0
	for i, from := range x.From {
		end := site{from, len(k.f.Blocks[from].Code)}
		switch kind := k.IntN(3); {
		case others && kind > 0:
			x.Args[i] = k.operand(end)
		case kind == 0 && k.isAbove(at, end):
			x.Args[i] = api.Opd{Reg: x.To}
		default:
			x.Args[i] = common
		}
	}
}

// latest returns the register that is defined last before a site in its block, or another operand if there is none.
func (k *maker) latest(at site, other api.Opd) api.Opd {
	for _, x := range slices.Backward(k.f.Blocks[at.block].Code[:at.index]) {
		if x.To >= 0 {
			return api.Opd{Reg: x.To}
		}
	}
	return other
}

// repeat makes an instruction like one above it, if there is one of its kind: an equal operation or check, a load or store of the same element (or a store of another one), a get or put of the same cell.
func (k *maker) repeat(x *api.Instr, at site) {
	var list []api.Instr
	for b, block := range k.f.Blocks {
		for i, y := range block.Code {
			if k.isAbove(site{b, i}, at) && (y.Op == x.Op || memory(y.Op) != 0 && memory(y.Op) == memory(x.Op)) {
				list = append(list, y)
				if b == at.block {
					list = append(list, y, y, y, y)
				}
			}
		}
	}
	if len(list) == 0 {
		return
	}
	y := list[k.IntN(len(list))]
	switch x.Op {
	case api.IxBin, api.IxCheck:
		x.Kind, x.A, x.B = y.Kind, y.A, y.B
		if x.Op == api.IxBin && k.IntN(3) == 0 {
			x.A, x.B = y.B, y.A
		}
	case api.IxLoad, api.IxStore:
		x.Array = y.Array
		if x.Op == api.IxLoad || k.IntN(2) == 0 {
			x.A = y.A
		}
	case api.IxGet, api.IxPut:
		x.Cell = y.Cell
	}
}

// memory returns what loads and stores have in common, and gets and puts; 0 for others.
func memory(op int) int {
	switch op {
	case api.IxLoad, api.IxStore:
		return 1
	case api.IxGet, api.IxPut:
		return 2
	}
	return 0
}

// constant draws a constant.
func (k *maker) constant() api.Opd {
	list := []int64{0, 0, 1, 1, 2, 3, -1, -2, 64, 255, 256, 1 << 62, -1 << 63}
	return api.Opd{Reg: -1, Imm: list[k.IntN(len(list))]}
}

// operand draws an operand for a site.
func (k *maker) operand(at site) api.Opd {
	var list []api.Opd
	for i, s := range k.sites {
		if k.isAbove(s, at) {
			list = append(list, api.Opd{Reg: k.f.Params + i})
		}
	}
	switch kind := k.IntN(12); {
	case kind < 8 && len(list) > 0:
		return list[k.IntN(len(list))]
	case kind < 9 && k.f.Params > 0:
		return api.Opd{Reg: k.IntN(k.f.Params)}
	}
	return k.constant()
}

func (k *maker) isReached(b int) bool { return b == 0 || k.g.Idom[b] >= 0 }

// isAbove reports whether what is defined at a site may be read at another one, which is everything where that is not reached.
func (k *maker) isAbove(s, at site) bool {
	switch {
	case !k.isReached(at.block):
		return true
	case s.block == at.block:
		return s.index < at.index
	}
	b := at.block
	for b > 0 && b != s.block {
		b = k.g.Idom[b]
	}
	return b == s.block
}
