package samples

import "cupel/api"

// chains makes some operations, checks and branches ones of what operations above them have as their results, and of constants.
func (k *maker) chains() {
	k.chained = map[*api.Instr]bool{}
	for _, b := range k.g.Order {
		block := &k.f.Blocks[b]
		for i := range block.Code {
			if below := k.operationAbove(site{b, i}); below != nil && k.IntN(4) > 0 {
				k.link(&block.Code[i], below)
			}
		}
		below := k.operationAbove(site{b, len(block.Code)})
		if below != nil && block.End.Op == api.TmBranch && k.IntN(2) == 0 {
			below.Kind, below.B = api.IbEq+k.IntN(3), k.number(2)
			block.End.A = register(below.To)
		}
	}
}

// link makes an instruction one of the result of an operation, which may become another one.
func (k *maker) link(x, below *api.Instr) {
	switch {
	case x.Op == api.IxBin:
		k.chain(x, below)
		k.chained[x], k.chained[below] = true, true
	case x.Op == api.IxCheck && k.IntN(4) == 0:
		below.Kind, below.B = api.IbAnd, k.number(5)
		x.A, x.B = register(below.To), k.number(8)
	case x.Op == api.IxPrint:
		x.A = register(below.To)
	}
}

func register(r int) api.Opd { return api.Opd{Reg: r} }

// number draws a constant from 0 to n - 1.
func (k *maker) number(n int) api.Opd { return api.Opd{Reg: -1, Imm: int64(k.IntN(n))} }

// operationAbove returns an operation above a site, mostly one that is near to it and in no chain as yet, or nil.
func (k *maker) operationAbove(at site) *api.Instr {
	var list []*api.Instr
	again := k.IntN(3) == 0
	for _, s := range k.sites {
		if x := &k.f.Blocks[s.block].Code[s.index]; x.Op == api.IxBin && k.isAbove(s, at) && (again || !k.chained[x]) {
			list = append(list, x)
		}
	}
	if len(list) == 0 {
		return nil
	}
	if k.IntN(4) > 0 {
		list = list[max(0, len(list)-3):]
	}
	return list[k.IntN(len(list))]
}

// chain makes an operation one of the result of another one.
func (k *maker) chain(x, below *api.Instr) {
	x.A = register(below.To)
	switch k.IntN(5) {
	case 0: // the same by two constants
		kinds := []int{api.IbAdd, api.IbAnd, api.IbOr, api.IbXor, api.IbMul, api.IbMul, api.IbShl, api.IbShl}
		x.Kind = kinds[k.IntN(len(kinds))]
		below.Kind, below.B, x.B = x.Kind, k.constant(), k.constant()
	case 1: // minus minus
		x.Kind, x.A, x.B = api.IbSub, k.number(1), register(below.To)
		below.Kind, below.A = api.IbSub, k.number(1)
	case 2: // what is asked of a comparison
		kinds := []int{api.IbEq, api.IbNe, api.IbLt, api.IbLt, api.IbLt, api.IbLe}
		x.Kind, x.B = api.IbEq+k.IntN(2), k.number(1)
		if below.Kind = kinds[k.IntN(len(kinds))]; k.IntN(3) > 0 {
			below.B = k.number(2)
		}
	case 3: // powers of 2, and -1
		kinds := []int{api.IbMul, api.IbDiv, api.IbDiv, api.IbDiv, api.IbRem, api.IbAnd, api.IbOr}
		x.Kind, x.B = kinds[k.IntN(len(kinds))], api.Opd{Reg: -1, Imm: int64(1) << k.IntN(64)}
		switch k.IntN(4) {
		case 0:
			x.B.Imm = -1
		case 1:
			below.Kind, below.B = api.IbSub, k.number(9)
		}
	default:
		x.B = k.constant()
	}
}
