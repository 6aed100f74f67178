package lower

import (
	"maps"
	"slices"

	"cupel/api"
)

// scope is what all functions of a program know.
type scope struct {
	variables map[string]place
	arrays    []api.GArray
	funcs     map[string]callee
	faults    []int
}

// callee is a function that can be called: its index, and whether its result is of small.
type callee struct {
	index int
	small bool
}

// place is where a variable is: the index of a register, a cell or an array of the function.
type place struct {
	api.Type
	where, index int
}

const (
	inRegister = 1 + iota
	inCell
	inArray
)

// loop is a loop around the present block, and where a break and a continue in it lead.
type loop struct{ breaks, continues int }

// builder makes one function: code is added to the block now.
type builder struct {
	scope
	made  api.IFunc
	now   int
	loops []loop // a stack: the innermost one is the last
	stmts [api.StReturn + 1]func(*builder, api.Stmt)
	exprs [api.ExToSmall + 1]func(*builder, api.Expr) value
}

// newBuilder begins a function, with the block 0.
func newBuilder(f api.Func, around scope) *builder {
	b := &builder{scope: around, stmts: stmtKinds(), exprs: exprKinds()}
	b.variables = maps.Clone(around.variables)
	b.made.Name, b.made.Result = f.Name, f.Result != 0
	b.block()
	return b
}

func (b *builder) params(list []api.Param) {
	for _, p := range list {
		if p.Type.Len > 0 {
			b.array(p.Name, p.Type, api.Array{Kind: api.AyParam, Len: p.Type.Len, Small: isSmall(p.Type)})
			continue
		}
		b.made.Params++
		b.hold(p.Name, p.Type)
	}
}

// globals gives the function the arrays of the module that are among these names.
func (b *builder) globals(names map[string]bool) {
	for i, a := range b.arrays {
		if names[a.Name] {
			b.array(a.Name, b.variables[a.Name].Type, api.Array{Kind: api.AyGlobal, Global: i})
		}
	}
}

// hold gives a scalar a new register.
func (b *builder) hold(name string, t api.Type) api.Opd {
	to := b.register()
	b.variables[name] = place{t, inRegister, to.Reg}
	return to
}

// array gives the function a new array.
func (b *builder) array(name string, t api.Type, a api.Array) {
	b.variables[name] = place{t, inArray, len(b.made.Arrays)}
	b.made.Arrays = append(b.made.Arrays, a)
}

func (b *builder) on(fault int) bool { return slices.Contains(b.faults, fault) }

func constant(n int64) api.Opd { return api.Opd{Reg: -1, Imm: n} }

func (b *builder) register() api.Opd {
	b.made.Regs++
	return api.Opd{Reg: b.made.Regs - 1}
}

func (b *builder) block() int {
	b.made.Blocks = append(b.made.Blocks, api.Block{})
	return len(b.made.Blocks) - 1
}

func (b *builder) add(x api.Instr) {
	code := &b.made.Blocks[b.now].Code
	*code = append(*code, x)
}

func (b *builder) copy(to, a api.Opd) {
	b.add(api.Instr{Op: api.IxCopy, To: to.Reg, A: a})
}

// operate writes the result of an operation into a register.
func (b *builder) operate(to api.Opd, kind int, x, y api.Opd) {
	b.add(api.Instr{Op: api.IxBin, Kind: kind, To: to.Reg, A: x, B: y})
}

// operated returns a new register with the result of an operation.
func (b *builder) operated(kind int, x, y api.Opd) api.Opd {
	t := b.register()
	b.operate(t, kind, x, y)
	return t
}

// check makes the function trap where an index is not one of the array.
func (b *builder) check(index api.Opd, array place) {
	if !b.on(api.FtLower3) {
		b.add(api.Instr{Op: api.IxCheck, To: -1, A: index, B: constant(int64(array.Len))})
	}
}

func (b *builder) store(array place, index, a api.Opd) {
	b.add(api.Instr{Op: api.IxStore, To: -1, Array: array.index, A: index, B: a})
}

func (b *builder) end(t api.Term) { b.made.Blocks[b.now].End = t }

func (b *builder) jump(to int) { b.end(api.Term{Op: api.TmJump, To: to}) }

func (b *builder) branch(c api.Opd, yes, no int) {
	b.end(api.Term{Op: api.TmBranch, A: c, To: yes, Else: no})
}
