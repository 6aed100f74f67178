package fold

import (
	"slices"

	"cupel/api"
	"cupel/parts"
)

// The rules.
const (
	ruleOperand = 1
	ruleBranch  = 2
)

// user uses what is known of a function.
type user struct {
	f      *api.IFunc
	known  facts
	record parts.Record
}

// blocks makes all applications.
func (u *user) blocks() {
	for b := range u.f.Blocks {
		if u.known.blocks[b] {
			u.code(b)
			u.end(b)
		}
	}
}

func (u *user) code(b int) {
	code := u.f.Blocks[b].Code
	for i := range code {
		x := &code[i]
		for j, o := range parts.Operands(x) {
			if x.Op != api.IxPhi || u.known.edges[edge{x.From[j], b}] {
				u.operand(o, b, i)
			}
		}
	}
}

func (u *user) operand(o *api.Opd, b, index int) {
	if is := u.known.of(*o); o.Reg >= 0 && is.state == constant && u.record.Add(ruleOperand, b, index) {
		*o = api.Opd{Reg: -1, Imm: is.value}
	}
}

func (u *user) end(b int) {
	end := &u.f.Blocks[b].End
	for _, o := range parts.EndOperands(end, u.f.Result) {
		u.operand(o, b, -1)
	}
	if end.Op != api.TmBranch || end.A.Reg >= 0 || !u.record.Add(ruleBranch, b, -1) {
		return
	}
	taken := way(*end, end.A.Imm)
	for _, to := range parts.Targets(*end) {
		if to != taken {
			leaveOut(u.f.Blocks[to], b)
		}
	}
	*end = api.Term{Op: api.TmJump, To: taken}
}

// leaveOut leaves out what belongs to another block in the phis of a block.
func leaveOut(block api.Block, from int) {
	for i := range parts.Phis(block) {
		x := &block.Code[i]
		j := slices.Index(x.From, from)
		x.From, x.Args = slices.Delete(x.From, j, j+1), slices.Delete(x.Args, j, j+1)
	}
}
