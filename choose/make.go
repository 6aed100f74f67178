package choose

import (
	"slices"

	"cupel/api"
	"cupel/flow"
)

// none stands for a register where an operation has none.
const none = -1

// module is what all functions of a module know.
type module struct {
	*api.Module
	addresses []int // those of its arrays
	faults    []int
}

// array is an array of a function. What at is depends on its kind: of a local array its number among these, of a parameter its register, of an array of the module its address.
type array struct {
	kind, length int
	small        bool
	at           int
}

// chooser makes the virtual code of one function: instructions are added to the block now.
type chooser struct {
	from   *api.IFunc
	faults []int
	made   api.VFunc
	arrays []array
	now    []api.VInstr
}

// codeOf makes the virtual code of a module, also if a function has too many registers.
func codeOf(m *api.Module, faults []int) api.VCode {
	v := api.VCode{Words: len(m.Cells), Main: m.Main}
	for _, c := range m.Cells {
		v.Data = append(v.Data, c.Init)
	}
	around := module{Module: m, faults: faults}
	for _, a := range m.Arrays {
		around.addresses = append(around.addresses, v.Words)
		v.Words += a.Len
	}
	for k := range m.Funcs {
		v.Funcs = append(v.Funcs, around.function(k))
	}
	return v
}

func (m module) function(k int) api.VFunc {
	c := newChooser(m, k)
	live, _, _ := flow.Live(*m.Module, k)
	c.begin(live[0])
	instrs := c.instrs()
	for b := range c.from.Blocks {
		block := &c.from.Blocks[b]
		for i := range block.Code {
			instrs[block.Code[i].Op](&block.Code[i])
		}
		c.end(block.End)
		c.made.Blocks = append(c.made.Blocks, c.now)
		c.now = nil
	}
	return c.made
}

// newChooser gives a function its registers, arguments and arrays.
func newChooser(m module, k int) *chooser {
	f := &m.Funcs[k]
	c := &chooser{from: f, faults: m.faults, made: api.VFunc{Regs: f.Regs, Args: f.Params}}
	for _, a := range f.Arrays {
		made := array{kind: a.Kind, length: a.Len, small: a.Small}
		switch a.Kind {
		case api.AyLocal:
			made.at = len(c.made.Locals)
			c.made.Locals = append(c.made.Locals, a.Len)
		case api.AyParam:
			made.at = c.fresh()
			c.made.Args++
		case api.AyGlobal:
			global := m.Arrays[a.Global]
			made.length, made.small, made.at = global.Len, global.Small, m.addresses[a.Global]
		}
		c.arrays = append(c.arrays, made)
	}
	return c
}

// begin adds what comes before all instructions of the block 0, at whose beginning these registers are live.
func (c *chooser) begin(live []int) {
	for i := range c.made.Args {
		to := i
		if i >= c.from.Params {
			to = c.from.Regs + i - c.from.Params
		}
		c.add(api.VcParam, to, none, none, int64(i))
	}
	for _, r := range live {
		if r >= c.from.Params {
			c.add(api.VcSet, r, none, none, 0)
		}
	}
	c.clear()
}

// clear makes all elements of the local arrays 0.
func (c *chooser) clear() {
	if len(c.made.Locals) == 0 {
		return
	}
	zero := c.set(0)
	for number, length := range c.made.Locals {
		base := c.local(number)
		for i := range length {
			c.add(api.VcStore, none, base, zero, int64(i))
		}
	}
}

func (c *chooser) on(fault int) bool { return slices.Contains(c.faults, fault) }

func (c *chooser) add(op, d, a, b int, imm int64) {
	c.now = append(c.now, api.VInstr{Op: op, D: d, A: a, B: b, Imm: imm})
}

// fresh returns a new register.
func (c *chooser) fresh() int {
	c.made.Regs++
	return c.made.Regs - 1
}

// set returns a new register with a number.
func (c *chooser) set(v int64) int {
	r := c.fresh()
	c.add(api.VcSet, r, none, none, v)
	return r
}

// local returns a new register with the address of a local array.
func (c *chooser) local(number int) int {
	r := c.fresh()
	c.add(api.VcLocal, r, none, none, int64(number))
	return r
}

// base returns a register with the address of an array.
func (c *chooser) base(a array) int {
	switch a.kind {
	case api.AyLocal:
		return c.local(a.at)
	case api.AyGlobal:
		return c.set(int64(a.at))
	}
	return a.at
}
