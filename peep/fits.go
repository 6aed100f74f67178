package peep

import (
	"slices"

	"cupel/api"
)

// Where the rows of the table fit, and where a check is left out.

func isKnown(x api.Instr, _ result) bool {
	_, is := calculate(x.Kind, x.A, x.B)
	return is
}

// isTurned: the constant comes first. Where both operands are constants, the rule before is applied.
func isTurned(x api.Instr, _ result) bool { return isConstant(x.A) }

func byConstant(x api.Instr, _ result) bool { return isConstant(x.B) }

// by fits where the operand B is one of these constants.
func by(list ...int64) func(x api.Instr, of result) bool {
	return func(x api.Instr, _ result) bool { return isConstant(x.B) && slices.Contains(list, x.B.Imm) }
}

// byWholeTurns: a shift by a multiple of 64.
func byWholeTurns(x api.Instr, _ result) bool { return isConstant(x.B) && places(x.B) == 0 }

// places is by how many places a constant shifts.
func places(o api.Opd) int64 { return o.Imm & 63 }

func bySelf(x api.Instr, _ result) bool { return !isConstant(x.A) && x.A == x.B }

// byPower: by 2 to the power of 1 to 62.
func byPower(x api.Instr, _ result) bool {
	n := x.B.Imm
	return isConstant(x.B) && n > 1 && n&(n-1) == 0
}

// isChain: by a constant, of the result of the same operation by another constant.
func isChain(x api.Instr, of result) bool {
	y := of(x.A)
	return y.Kind == x.Kind && isConstant(x.B) && isConstant(y.B)
}

// isShortChain: shifts that are one shift together.
func isShortChain(x api.Instr, of result) bool {
	return isChain(x, of) && places(x.B)+places(of(x.A).B) < 64
}

func isMinusTwice(x api.Instr, of result) bool { return isMinus(x) && isMinus(of(x.B)) }

func isMinus(x api.Instr) bool { return x.Kind == api.IbSub && x.A == constant(0) }

// isOfComparison: a comparison with 0 of what another one has as its result.
func isOfComparison(x api.Instr, of result) bool {
	return x.B == constant(0) && slices.Contains([]int{api.IbEq, api.IbNe, api.IbLt, api.IbLe}, of(x.A).Kind)
}

func isOfLess(x api.Instr, of result) bool {
	return isOfComparison(x, of) && of(x.A).Kind == api.IbLt
}

// isMasked: a check of what a mask keeps below its bound.
func isMasked(x api.Instr, of result) bool {
	mask := of(x.A)
	isBelow := isConstant(mask.B) && mask.B.Imm >= 0 && isConstant(x.B) && mask.B.Imm < x.B.Imm
	return mask.Kind == api.IbAnd && isBelow
}
