package choose

import (
	"cupel/api"
	"cupel/meter"
)

// run is a run of virtual code, which is valid.
type run struct {
	meter.Meter
	*frame // the innermost call
	v      *api.VCode
	makes  map[int]func(*api.VInstr)
	memory [api.MaxMemory]int64
	taken  int // words at the beginning of the memory
}

// frame is a call that has not ended.
type frame struct {
	regs          []int64
	locals        []int64 // addresses of the local arrays
	given, giving arguments
	block, next   int   // where the instruction is that is made next
	last          int64 // the result of the call that has returned last in this one
	returned      bool
	value         int64
}

// arguments are those that a call was given, or that it is giving to the next one.
type arguments [mostArgs]int64

func newRun(v *api.VCode, steps int) *run {
	r := &run{Meter: meter.New(steps), v: v, taken: v.Words}
	r.makes = r.instrs()
	copy(r.memory[:], v.Data)
	return r
}

func (r *run) behaviour() api.Behaviour {
	return r.Behaviour(func() { r.function(r.v.Main, arguments{}) })
}

// function calls a function, and returns its result.
func (r *run) function(index int, given arguments) int64 {
	f, caller, taken := &r.v.Funcs[index], r.frame, r.taken
	callee := &frame{regs: make([]int64, f.Regs), locals: r.take(f.Locals), given: given}
	r.frame = callee
	for !callee.returned {
		x := &f.Blocks[callee.block][callee.next]
		callee.next++
		r.Step()
		r.makes[x.Op](x)
	}
	r.frame, r.taken = caller, taken
	return callee.value
}

// take takes room for local arrays, whose words keep what they were, and returns their addresses.
func (r *run) take(lengths []int) []int64 {
	var list []int64
	for _, length := range lengths {
		list = append(list, int64(r.taken))
		r.taken += length
	}
	if r.taken > len(r.memory) {
		r.Trap(api.TrMemory)
	}
	return list
}
