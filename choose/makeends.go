package choose

import "cupel/api"

// end adds the instructions for the end of a block.
func (c *chooser) end(t api.Term) {
	switch t.Op {
	case api.TmJump:
		c.jump(t.To)
	case api.TmBranch:
		c.branch(t)
	case api.TmReturn:
		c.add(api.VcReturn, none, c.registerFor(c.result(t)), none, 0)
	case api.TmTrap:
		c.add(api.VcTrap, none, none, none, 0)
	}
}

func (c *chooser) jump(to int) { c.add(api.VcJump, none, none, none, int64(to)) }

func (c *chooser) branch(t api.Term) {
	to := t.To
	switch o := operandOf(t.A).(type) {
	case register:
		c.add(api.VcZero, none, o.number, none, int64(t.Else))
	case constant:
		if o.value == 0 {
			to = t.Else
		}
	}
	c.jump(to)
}

// result returns what is returned.
func (c *chooser) result(t api.Term) operand {
	if !c.from.Result {
		return nothing{}
	}
	return operandOf(t.A)
}
