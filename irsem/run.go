package irsem

import (
	"cupel/api"
	"cupel/meter"
)

// run is a run of a module, which is valid.
type run struct {
	meter.Meter
	m      *api.Module
	instrs [api.IxCall + 1]func(*frame, *api.Instr)
	cells  []int64
	arrays []array
	most   int // visits that are wanted
	visits []api.Visit
}

// newRun begins a run with so many steps, of which so many visits are wanted.
func newRun(m *api.Module, steps, most int) *run {
	r := &run{Meter: meter.New(steps), m: m, instrs: instrKinds(), most: most}
	for _, c := range m.Cells {
		r.cells = append(r.cells, c.Init)
	}
	for _, a := range m.Arrays {
		r.arrays = append(r.arrays, newArray(a.Len, a.Small))
	}
	return r
}

// behaviour runs the module.
func (r *run) behaviour() api.Behaviour {
	return r.Behaviour(func() { r.enter(r.m.Main, nil).blocks() })
}

func (r *run) visit(function, block int) {
	if len(r.visits) < r.most {
		r.visits = append(r.visits, api.Visit{Func: function, Block: block})
	}
}

// array is an array; all that mean the same one share its elements.
type array struct {
	elements []int64
	small    bool
}

func newArray(length int, small bool) array {
	return array{make([]int64, length), small}
}

// at returns the element to which an index leads: it goes round, in both directions.
func (a array) at(i int64) *int64 {
	length := int64(len(a.elements))
	return &a.elements[(i%length+length)%length]
}
