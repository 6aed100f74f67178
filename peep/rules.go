package peep

import (
	"slices"

	"cupel/api"
	"cupel/irsem"
)

// The rules that are not for operations.
const (
	ruleMask  = 18
	ruleWay   = 19
	ruleTruth = 20
	ruleTurn  = 21
)

// rule is a row of the table: operations of these kinds (nil: of all) become something else where it fits. What they define stays the same.
type rule struct {
	number, fault int // a row with a fault (not 0) is there only while that is on
	kinds         []int
	fits          func(x api.Instr, of result) bool
	becomes       func(x api.Instr, of result) api.Instr
}

func (r rule) isFor(x api.Instr, of result) bool {
	return (r.kinds == nil || slices.Contains(r.kinds, x.Kind)) && r.fits(x, of)
}

// rules has those for operations in order, so that of the rows that fit the first one counts.
func rules(faults []int) []rule {
	table := []rule{
		{1, 0, nil, isKnown, known},
		{2, 0, []int{api.IbAdd, api.IbMul, api.IbAnd, api.IbOr, api.IbXor, api.IbEq, api.IbNe}, isTurned, turned},
		{3, 0, []int{api.IbAdd, api.IbSub, api.IbOr, api.IbXor}, by(0), first},
		{3, 0, []int{api.IbShl, api.IbShr}, byWholeTurns, first},
		{3, 0, []int{api.IbMul, api.IbDiv}, by(1), first},
		{3, 0, []int{api.IbAnd}, by(-1), first},
		{4, 0, []int{api.IbMul, api.IbAnd}, by(0), always(0)},
		{4, 0, []int{api.IbRem}, by(1, -1), always(0)},
		{5, 0, []int{api.IbOr}, by(-1), always(-1)},
		{6, 0, []int{api.IbSub, api.IbXor, api.IbNe, api.IbLt}, bySelf, always(0)},
		{6, 0, []int{api.IbAnd, api.IbOr}, bySelf, first},
		{6, 0, []int{api.IbEq, api.IbLe}, bySelf, always(1)},
		{7, 0, []int{api.IbDiv}, by(-1), minus},
		{8, 0, []int{api.IbMul}, byPower, shift(api.IbShl)},
		{9, 0, []int{api.IbSub}, byConstant, plus},
		{10, 0, []int{api.IbAdd}, isChain, joined},
		{11, 0, []int{api.IbAnd, api.IbOr, api.IbXor}, isChain, joined},
		{12, 0, []int{api.IbMul}, isChain, joined},
		{13, 0, []int{api.IbShl}, isShortChain, joinedShifts},
		{14, 0, []int{api.IbSub}, isMinusTwice, inner},
		{15, 0, []int{api.IbNe}, isOfComparison, first},
		{16, api.FtNotLess, []int{api.IbEq}, isOfLess, lessTurned},
		{16, 0, []int{api.IbEq}, isOfComparison, opposite},
		{17, api.FtShift, []int{api.IbDiv}, byPower, shift(api.IbShr)},
	}
	return slices.DeleteFunc(table, func(r rule) bool { return r.fault != 0 && !slices.Contains(faults, r.fault) })
}

// simpler returns which rule can be applied to an end, and what that becomes; 0 if none can be.
func simpler(t api.Term, of result) (number int, other api.Term) {
	if t.Op != api.TmBranch {
		return 0, api.Term{}
	}
	x := of(t.A)
	isByNone := x.B == constant(0)
	switch {
	case t.To == t.Else:
		return ruleWay, api.Term{Op: api.TmJump, To: t.To}
	case isByNone && x.Kind == api.IbNe:
		return ruleTruth, api.Term{Op: api.TmBranch, A: x.A, To: t.To, Else: t.Else}
	case isByNone && x.Kind == api.IbEq:
		return ruleTurn, api.Term{Op: api.TmBranch, A: x.A, To: t.Else, Else: t.To}
	}
	return 0, api.Term{}
}

func isConstant(o api.Opd) bool { return o.Reg < 0 }

func constant(n int64) api.Opd { return api.Opd{Reg: -1, Imm: n} }

func copyOf(o api.Opd) api.Instr { return api.Instr{Op: api.IxCopy, A: o} }

func operation(kind int, a, b api.Opd) api.Instr {
	return api.Instr{Op: api.IxBin, Kind: kind, A: a, B: b}
}

// calculate returns the result of an operation of two constants, if it has one.
func calculate(kind int, a, b api.Opd) (v api.Opd, is bool) {
	if !isConstant(a) || !isConstant(b) {
		return api.Opd{}, false
	}
	n, traps, _ := irsem.Bin(kind, a.Imm, b.Imm)
	return constant(n), !traps
}
