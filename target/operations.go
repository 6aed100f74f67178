package target

import (
	"math"
	"slices"

	"cupel/api"
	"cupel/texts"
)

// operand is a part of the text of an instruction, and says which field it is, or which ones.
type operand int

const (
	none    operand = iota
	regD            // a register
	regA            // likewise
	regB            // likewise
	place           // Imm and A
	signed          // Imm with 32 bits
	whole           // Imm with 64 bits
	address         // Imm
)

// operands are in the order of the text; none are at the end.
type operands [3]operand

type operation struct {
	word     string
	operands operands
}

var operations = [...]operation{
	api.MoMove:   {word: "move", operands: operands{regD, regA}},
	api.MoSet:    {word: "set", operands: operands{regD, signed}},
	api.MoWide:   {word: "wide", operands: operands{regD, whole}},
	api.MoLoad:   {word: "load", operands: operands{regD, place}},
	api.MoStore:  {word: "store", operands: operands{place, regB}},
	api.MoJump:   {word: "jump", operands: operands{address}},
	api.MoZero:   {word: "zero", operands: operands{regA, address}},
	api.MoCheck:  {word: "check", operands: operands{regA, regB}},
	api.MoCheckI: {word: "checki", operands: operands{regA, signed}},
	api.MoPrint:  {word: "print", operands: operands{regA}},
	api.MoCall:   {word: "call", operands: operands{address}},
	api.MoReturn: {word: "return"},
	api.MoTrap:   {word: "trap"},
	api.MoHalt:   {word: "halt"},
}

// operandsOf returns those of an Op, and false if there is no such Op.
func operandsOf(op int) (operands, bool) {
	switch {
	case op >= api.MoMove && op <= api.MoHalt:
		return operations[op].operands, true
	case texts.IsOperation(op - api.MoBin):
		return operands{regD, regA, regB}, true
	case texts.IsOperation(op - api.MoBinI):
		return operands{regD, regA, signed}, true
	}
	return operands{}, false
}

// wordOf returns the word of an Op, which there has to be.
func wordOf(op int) string {
	switch {
	case op <= api.MoHalt:
		return operations[op].word
	case texts.IsOperation(op - api.MoBin):
		return texts.Operation(op - api.MoBin)
	}
	return texts.Operation(op-api.MoBinI) + "i"
}

// named returns those that are there.
func (l operands) named() []operand {
	count := slices.Index(l[:], none)
	if count < 0 {
		count = len(l)
	}
	return l[:count]
}

// bounds returns the least and the greatest values of the fields; those that are not named are zero.
func (l operands) bounds() (least, most api.MInstr) {
	const last = api.MachRegs - 1
	for _, o := range l {
		switch o {
		case regD:
			most.D = last
		case regA:
			most.A = last
		case regB:
			most.B = last
		case place:
			most.A = last
			least.Imm, most.Imm = math.MinInt32, math.MaxInt32
		case signed:
			least.Imm, most.Imm = math.MinInt32, math.MaxInt32
		case whole:
			least.Imm, most.Imm = math.MinInt64, math.MaxInt64
		case address:
			most.Imm = api.MaxCode
		}
	}
	return least, most
}
