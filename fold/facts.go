package fold

import "cupel/api"

// What is known of a register.
const (
	nothing  = iota // it is neither constant nor varying
	constant        // it has one value
	varying
)

// fact is what is known of a register, and its value if it is constant.
type fact struct {
	state int
	value int64
}

// edge leads from a block to another one.
type edge struct{ from, to int }

// facts are those about a function: registers by their numbers, and which blocks and edges are executable.
type facts struct {
	regs   []fact
	blocks map[int]bool
	edges  map[edge]bool
}

// of returns the fact of an operand.
func (k facts) of(o api.Opd) fact {
	if o.Reg < 0 {
		return fact{constant, o.Imm}
	}
	return k.regs[o.Reg]
}

// way returns where a branch by a value leads.
func way(t api.Term, value int64) int {
	if value != 0 {
		return t.To
	}
	return t.Else
}
