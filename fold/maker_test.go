package fold_test

import (
	"fmt"
	"math/rand/v2"
	"slices"
	"strings"
	"testing"

	"cupel/api"
	"cupel/flow"
	"cupel/gen"
	"cupel/lower"
	"cupel/parts"
	"cupel/ssa"
)

// maker draws a function in static single assignment form: first its graph, then what its instructions are, and then operands that may stand where they do.
type maker struct {
	*rand.Rand
	f     *api.IFunc
	g     api.Graph
	sites []site // where the registers after the parameters are defined
}

type site struct{ block, index int }

// makeModule makes a module whose function 0 has so many blocks; it is called by main, and calls g.
func makeModule(t *testing.T, seed uint64, blocks int) api.Module {
	t.Helper()
	dice := random(seed)
	head := fmt.Sprint(dice.IntN(3), " regs 2")
	if dice.IntN(3) > 0 {
		head += " result"
	}
	m := of(t, head, ends(dice, strings.HasSuffix(head, "result"), blocks))
	g, e := flow.Make(m, 0)
	if e != api.OK {
		t.Fatalf("%s\nMake: error %d", text(m), e)
	}
	k := maker{Rand: dice, f: &m.Funcs[0], g: g}
	for b := range blocks {
		k.code(b)
	}
	for b := range blocks {
		k.operands(b)
	}
	k.f.Regs = k.f.Params + len(k.sites) + k.IntN(3)
	if e := ssa.Check(m, 0); e != api.OK {
		t.Fatalf("error %d: %+v", e, m)
	}
	return m
}

// ends writes blocks without instructions.
func ends(dice *rand.Rand, result bool, blocks int) string {
	var s strings.Builder
	style := dice.IntN(3)
	for b := range blocks {
		kind := dice.IntN(20)
		switch {
		case blocks > 1 && b < blocks-1 && kind > 1 || blocks > 1 && kind > 13:
			to, other := target(dice, style, b, blocks), target(dice, style, b, blocks)
			if kind < 7 {
				fmt.Fprintf(&s, "b%d: jump b%d; ", b, to)
			} else {
				fmt.Fprintf(&s, "b%d: branch 0, b%d, b%d; ", b, to, other)
			}
		case kind == 0 && dice.IntN(2) == 0:
			fmt.Fprintf(&s, "b%d: trap; ", b)
		case result:
			fmt.Fprintf(&s, "b%d: return 0; ", b)
		default:
			fmt.Fprintf(&s, "b%d: return; ", b)
		}
	}
	return s.String()
}

// target draws a block to which another one leads: in some functions mostly one behind it, in others one near to it, or any.
func target(dice *rand.Rand, style, b, blocks int) int {
	switch {
	case style == 0 && b+1 < blocks && dice.IntN(4) > 0:
		return b + 1 + dice.IntN(min(4, blocks-b-1))
	case style == 1:
		return min(max(1, b-2+dice.IntN(6)), blocks-1)
	}
	return 1 + dice.IntN(blocks-1)
}

// code draws the instructions of a block, all operands being 0 as yet.
func (k *maker) code(b int) {
	var list []api.Instr
	if b > 0 {
		from := k.g.Preds[b]
		for range k.IntN(4) {
			list = append(list, api.Instr{Op: api.IxPhi, From: slices.Clone(from), Args: make([]api.Opd, len(from))})
		}
	}
	for range k.IntN(6) {
		list = append(list, k.instr())
	}
	for i := range list {
		if list[i].To == 0 {
			list[i].To = k.f.Params + len(k.sites)
			k.sites = append(k.sites, site{b, i})
		}
	}
	k.f.Blocks[b].Code = list
}

// instr draws an instruction; To is 0 if it is to define a register.
func (k *maker) instr() api.Instr {
	list := []api.Instr{
		{Op: api.IxCopy},
		{Op: api.IxCopy},
		{Op: api.IxLoad, Array: k.IntN(2)},
		{Op: api.IxGet, Cell: k.IntN(2)},
		{Op: api.IxCall, To: k.IntN(2) - 1, Func: 2, Args: []api.Opd{{}, {}}, Arrays: []int{0}},
		{Op: api.IxCheck, To: -1},
		{Op: api.IxStore, To: -1, Array: k.IntN(2)},
		{Op: api.IxPut, To: -1, Cell: k.IntN(2)},
		{Op: api.IxPrint, To: -1},
		{Op: api.IxPrint, To: -1},
	}
	if i := k.IntN(22); i < len(list) {
		return list[i]
	}
	kinds := []int{api.IbAdd, api.IbSub, api.IbMul, api.IbDiv, api.IbRem, api.IbAnd, api.IbOr, api.IbXor, api.IbShl, api.IbShr, api.IbEq, api.IbNe, api.IbLt, api.IbLt, api.IbLt, api.IbLe}
	return api.Instr{Op: api.IxBin, Kind: kinds[k.IntN(len(kinds))]}
}

func (k *maker) operands(b int) {
	block := &k.f.Blocks[b]
	for i := range block.Code {
		x := &block.Code[i]
		common := k.constant()
		for j, o := range parts.Operands(x) {
			switch {
			case x.Op != api.IxPhi:
				*o = k.operand(site{b, i})
			case k.IntN(3) == 0:
				*o = common
			default:
				*o = k.operand(site{x.From[j], len(k.f.Blocks[x.From[j]].Code)})
			}
		}
		if x.Op == api.IxCheck && k.IntN(4) > 0 {
			x.B = api.Opd{Reg: -1, Imm: 1 << 40}
		}
	}
	for _, o := range parts.EndOperands(&block.End, k.f.Result) {
		*o = k.operand(site{b, len(block.Code)})
	}
}

func (k *maker) constant() api.Opd {
	list := []int64{0, 0, 1, 1, 2, 3, -1, -2, 64, 1 << 62, -1 << 63}
	return api.Opd{Reg: -1, Imm: list[k.IntN(len(list))]}
}

// operand draws an operand for a site.
func (k *maker) operand(at site) api.Opd {
	var list []api.Opd
	for i, s := range k.sites {
		if k.isAbove(s, at) {
			list = append(list, api.Opd{Reg: k.f.Params + i})
		}
	}
	switch kind := k.IntN(12); {
	case kind < 8 && len(list) > 0:
		return list[k.IntN(len(list))]
	case kind < 9 && k.f.Params > 0:
		return api.Opd{Reg: k.IntN(k.f.Params)}
	}
	return k.constant()
}

// isAbove reports whether what is defined at a site may be read at another one, which is everything where that is not reached.
func (k *maker) isAbove(s, at site) bool {
	switch {
	case !slices.Contains(k.g.Order, at.block):
		return true
	case s.block == at.block:
		return s.index < at.index
	}
	b := at.block
	for b > 0 && b != s.block {
		b = k.g.Idom[b]
	}
	return b == s.block
}

// modules calls look with many modules.
func modules(t *testing.T, count, blocks int, look func(m api.Module)) {
	t.Helper()
	for seed := range uint64(count) {
		look(makeModule(t, seed, 1+int(seed)%blocks))
	}
}

// generated calls look with the modules of programs that are generated, all of whose functions are brought into the form.
func generated(t *testing.T, count int, look func(m api.Module)) {
	t.Helper()
	for seed := range uint64(count) {
		p, e := gen.Generate(api.Plan{Seed: seed, Funcs: int(seed % 5), Stmts: 5 + int(seed%30), Depth: int(seed % 4)})
		if e != api.OK {
			continue
		}
		m, e := lower.Lower(p, api.Limit{})
		for k := 0; e == api.OK && k < len(m.Funcs); k++ {
			m, _, e = ssa.Into(m, k, all())
		}
		if e == api.OK {
			look(m)
		}
	}
}
