package irsem

import "cupel/api"

// run is a run of a module, which is valid.
type run struct {
	m      *api.Module
	instrs [api.IxCall + 1]func(*frame, *api.Instr)
	cells  []int64
	arrays []array
	left   int // steps that may still be made
	out    []int64
	most   int // visits that are wanted
	visits []api.Visit
}

// ended is the end of a run before that of its first call.
type ended struct{ end, code int }

// newRun begins a run with so many steps, of which so many visits are wanted.
func newRun(m *api.Module, steps, most int) *run {
	r := &run{m: m, instrs: instrKinds(), left: steps, most: most}
	for _, c := range m.Cells {
		r.cells = append(r.cells, c.Init)
	}
	for _, a := range m.Arrays {
		r.arrays = append(r.arrays, newArray(a.Len, a.Small))
	}
	return r
}

// behaviour runs the module. What ends it leaves all calls at once.
func (r *run) behaviour() (b api.Behaviour) {
	defer func() {
		if how, ok := recover().(ended); ok {
			b = api.Behaviour{Out: r.out, End: how.end, Code: how.code}
		}
	}()
	r.enter(r.m.Main, nil).blocks()
	return api.Behaviour{Out: r.out, End: api.EnDone}
}

// step counts what is made next, if a step is left for it.
func (r *run) step() {
	if r.left == 0 {
		r.end(api.EnSteps, 0)
	}
	r.left--
}

func (r *run) end(end, code int) { panic(ended{end, code}) }

func (r *run) visit(function, block int) {
	if len(r.visits) < r.most {
		r.visits = append(r.visits, api.Visit{Func: function, Block: block})
	}
}

// array is an array; all that mean the same one share its elements.
type array struct {
	elements []int64
	small    bool
}

func newArray(length int, small bool) array {
	return array{make([]int64, length), small}
}

// at returns the element to which an index leads: it goes round, in both directions.
func (a array) at(i int64) *int64 {
	length := int64(len(a.elements))
	return &a.elements[(i%length+length)%length]
}
