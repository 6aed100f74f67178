package choose

import "cupel/api"

// instrs says how the instructions of each kind are made.
func (c *chooser) instrs() map[int]func(*api.Instr) {
	return map[int]func(*api.Instr){
		api.IxCopy:  c.copy,
		api.IxBin:   c.operate,
		api.IxCheck: c.check,
		api.IxLoad:  c.load,
		api.IxStore: c.store,
		api.IxGet:   c.get,
		api.IxPut:   c.put,
		api.IxPrint: c.print,
		api.IxCall:  c.call,
	}
}

func (c *chooser) copy(x *api.Instr) {
	switch o := operandOf(x.A).(type) {
	case register:
		c.add(api.VcMove, x.To, o.number, none, 0)
	case constant:
		c.add(api.VcSet, x.To, none, none, o.value)
	}
}

func (c *chooser) operate(x *api.Instr) {
	left, right := operandOf(x.A), operandOf(x.B)
	if c.areExchanged(x.Kind, left, right) {
		left, right = right, left
	}
	a := c.registerFor(left)
	if v, ok := short(right); ok {
		c.add(api.VcBinI+x.Kind, x.To, a, none, v)
	} else {
		c.add(api.VcBin+x.Kind, x.To, a, c.registerFor(right), 0)
	}
}

// areExchanged reports whether two operands change places: the left one alone is a constant, and the operation may be made the other way round.
func (c *chooser) areExchanged(kind int, left, right operand) bool {
	return isConstant(left) && !isConstant(right) && c.commutes(kind)
}

func (c *chooser) commutes(kind int) bool {
	switch kind {
	case api.IbAdd, api.IbMul, api.IbAnd, api.IbOr, api.IbXor, api.IbEq, api.IbNe:
		return true
	case api.IbSub:
		return c.on(api.FtChoose1)
	}
	return false
}

func (c *chooser) check(x *api.Instr) {
	a, bound := c.registerFor(operandOf(x.A)), operandOf(x.B)
	if v, ok := short(bound); ok {
		c.add(api.VcCheckI, none, a, none, v)
	} else {
		c.add(api.VcCheck, none, a, c.registerFor(bound), 0)
	}
}

func (c *chooser) load(x *api.Instr) {
	base, offset := c.place(c.arrays[x.Array], operandOf(x.A))
	c.add(api.VcLoad, x.To, base, none, offset)
}

func (c *chooser) store(x *api.Instr) {
	a := c.arrays[x.Array]
	base, offset := c.place(a, operandOf(x.A))
	c.add(api.VcStore, none, base, c.stored(a, operandOf(x.B)), offset)
}

// place returns a register and a number that together are the address of an element.
func (c *chooser) place(a array, index operand) (base int, offset int64) {
	length := int64(a.length)
	switch i := index.(type) {
	case constant:
		return c.base(a), (i.value%length + length) % length
	}
	inside := c.inside(c.registerFor(index), length)
	if a.kind == api.AyGlobal {
		return inside, int64(a.at)
	}
	base, sum := c.base(a), c.fresh()
	c.add(api.VcBin+api.IbAdd, sum, base, inside, 0)
	return sum, 0
}

// inside returns a new register with an index modulo a length.
func (c *chooser) inside(index int, length int64) int {
	t := c.fresh()
	c.add(api.VcBinI+api.IbRem, t, index, none, length)
	if !c.on(api.FtChoose2) {
		c.add(api.VcBinI+api.IbAdd, t, t, none, length)
		c.add(api.VcBinI+api.IbRem, t, t, none, length)
	}
	return t
}

// stored returns a register with what an array keeps of an operand.
func (c *chooser) stored(a array, o operand) int {
	if !a.small || c.on(api.FtChoose3) {
		return c.registerFor(o)
	}
	switch o := o.(type) {
	case constant:
		return c.set(o.value & 255)
	}
	w := c.fresh()
	c.add(api.VcBinI+api.IbAnd, w, c.registerFor(o), none, 255)
	return w
}

func (c *chooser) get(x *api.Instr) {
	c.add(api.VcLoad, x.To, c.set(0), none, int64(x.Cell))
}

func (c *chooser) put(x *api.Instr) {
	v := c.registerFor(operandOf(x.A))
	c.add(api.VcStore, none, c.set(0), v, int64(x.Cell))
}

func (c *chooser) print(x *api.Instr) {
	c.add(api.VcPrint, none, c.registerFor(operandOf(x.A)), none, 0)
}

func (c *chooser) call(x *api.Instr) {
	for i, o := range x.Args {
		c.add(api.VcArg, none, c.registerFor(operandOf(o)), none, int64(i))
	}
	for i, a := range x.Arrays {
		c.add(api.VcArg, none, c.base(c.arrays[a]), none, int64(len(x.Args)+i))
	}
	c.add(api.VcCall, none, none, none, int64(x.Func))
	if x.To >= 0 {
		c.add(api.VcResult, x.To, none, none, 0)
	}
}
