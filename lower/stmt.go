package lower

import "cupel/api"

// stmtKinds says how the statements of each kind are lowered.
func stmtKinds() [api.StReturn + 1]func(*builder, api.Stmt) {
	return [api.StReturn + 1]func(*builder, api.Stmt){
		api.StLet:      (*builder).let,
		api.StSet:      (*builder).set,
		api.StPut:      (*builder).put,
		api.StCall:     (*builder).callAlone,
		api.StPrint:    (*builder).print,
		api.StTrap:     (*builder).trap,
		api.StIf:       (*builder).choose,
		api.StWhile:    (*builder).while,
		api.StFor:      (*builder).count,
		api.StBreak:    (*builder).breakOff,
		api.StContinue: (*builder).goOn,
		api.StReturn:   (*builder).leave,
	}
}

func (b *builder) list(stmts []api.Stmt) {
	for _, s := range stmts {
		b.stmts[s.Kind](b, s)
	}
}

func (b *builder) let(s api.Stmt) {
	if s.Type.Len > 0 {
		b.array(s.Name, s.Type, api.Array{Kind: api.AyLocal, Len: s.Type.Len, Small: isSmall(s.Type)})
		for i := range s.Type.Len {
			b.store(b.variables[s.Name], constant(int64(i)), constant(0))
		}
		return
	}
	a := constant(0)
	if len(s.Exprs) > 0 {
		a = b.operand(s.Exprs[0])
	}
	b.copy(b.hold(s.Name, s.Type), a)
}

func (b *builder) set(s api.Stmt) {
	a, v := b.operand(s.Exprs[0]), b.variables[s.Name]
	if v.where == inCell {
		b.add(api.Instr{Op: api.IxPut, To: -1, Cell: v.index, A: a})
		return
	}
	b.copy(api.Opd{Reg: v.index}, a)
}

func (b *builder) put(s api.Stmt) {
	i, a, v := b.operand(s.Exprs[0]), b.operand(s.Exprs[1]), b.variables[s.Name]
	b.check(i, v)
	b.store(v, i, a)
}

func (b *builder) callAlone(s api.Stmt) { b.callTo(s.Exprs[0], false) }

func (b *builder) print(s api.Stmt) {
	b.add(api.Instr{Op: api.IxPrint, To: -1, A: b.operand(s.Exprs[0])})
}

func (b *builder) choose(s api.Stmt) {
	c := b.operand(s.Exprs[0])
	yes, no := b.block(), b.block()
	after := no
	if len(s.Else) > 0 {
		after = b.block()
	}
	b.branch(c, yes, no)
	b.part(yes, s.Body, after)
	if len(s.Else) > 0 {
		b.part(no, s.Else, after)
	}
	b.now = after
}

// part makes statements into a block, after which another one comes.
func (b *builder) part(block int, stmts []api.Stmt, next int) {
	b.now = block
	b.list(stmts)
	b.jump(next)
}

// round makes the body of a loop likewise.
func (b *builder) round(l loop, stmts []api.Stmt, next int) {
	b.loops = append(b.loops, l)
	b.list(stmts)
	b.jump(next)
	b.loops = b.loops[:len(b.loops)-1]
}

func (b *builder) while(s api.Stmt) {
	n := b.register()
	b.copy(n, constant(0))
	head, bound, body, after := b.block(), b.block(), b.block(), b.block()
	b.jump(head)
	b.now = head
	b.branch(b.operand(s.Exprs[0]), bound, after)
	b.now = bound
	b.branch(b.operated(api.IbLt, n, constant(int64(s.Bound))), body, after)
	b.now = body
	b.operate(n, api.IbAdd, n, constant(1))
	b.round(loop{after, head}, s.Body, head)
	b.now = after
}

func (b *builder) count(s api.Stmt) {
	from, to := b.operand(s.Exprs[0]), b.operand(s.Exprs[1])
	v := b.hold(s.Name, api.Type{Kind: api.TyInt})
	b.copy(v, from)
	high := b.register()
	b.copy(high, to)
	head, body, next, after := b.block(), b.block(), b.block(), b.block()
	b.jump(head)
	b.now = head
	below := api.IbLt
	if b.on(api.FtLower2) {
		below = api.IbLe
	}
	b.branch(b.operated(below, v, high), body, after)
	b.now = body
	b.round(loop{after, next}, s.Body, next)
	b.now = next
	b.operate(v, api.IbAdd, v, constant(1))
	b.jump(head)
	b.now = after
}

func (b *builder) breakOff(api.Stmt) {
	b.jump(b.loops[len(b.loops)-1].breaks)
	b.now = b.block()
}

func (b *builder) goOn(api.Stmt) {
	b.jump(b.loops[len(b.loops)-1].continues)
	b.now = b.block()
}

func (b *builder) leave(s api.Stmt) {
	t := api.Term{Op: api.TmReturn}
	if len(s.Exprs) > 0 {
		t.A = b.operand(s.Exprs[0])
	}
	b.end(t)
	b.now = b.block()
}

func (b *builder) trap(api.Stmt) {
	b.end(api.Term{Op: api.TmTrap})
	b.now = b.block()
}
