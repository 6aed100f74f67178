// Package meter has what runs of modules and of virtual code have in common: it counts their steps, keeps what they print, and ends them.
package meter

import "cupel/api"

// Meter is what a run has printed, and how much it may still do.
type Meter struct {
	left int // steps that may still be made
	out  []int64
}

// ended is the end of a run before that of its first call.
type ended struct{ end, code int }

// New returns the meter of a run with so many steps.
func New(steps int) Meter { return Meter{left: steps} }

// Behaviour makes a run, and returns what it does. What ends the run leaves all calls at once.
func (m *Meter) Behaviour(run func()) (b api.Behaviour) {
	defer func() {
		if how, ok := recover().(ended); ok {
			b = api.Behaviour{Out: m.out, End: how.end, Code: how.code}
		}
	}()
	run()
	return api.Behaviour{Out: m.out, End: api.EnDone}
}

// Step counts what is made next, if a step is left for it.
func (m *Meter) Step() {
	if m.left == 0 {
		panic(ended{end: api.EnSteps})
	}
	m.left--
}

// Print prints a number, if there is room for it.
func (m *Meter) Print(v int64) {
	if len(m.out) == api.MaxOut {
		panic(ended{end: api.EnSteps})
	}
	m.out = append(m.out, v)
}

// Trap ends the run by a trap.
func (m *Meter) Trap(code int) { panic(ended{api.EnTrap, code}) }
