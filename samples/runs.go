package samples

import (
	"cupel/api"
	"cupel/irsem"
)

// Run returns the behaviour of a module.
func Run(t T, m api.Module, steps int) api.Behaviour {
	t.Helper()
	b, e := irsem.Run(m, steps)
	if e != api.OK {
		t.Fatalf("%s\nRun: error %d", Text(m), e)
	}
	return b
}

// IsKept reports whether a module does what another one does that a pass has made it of: where that one ends, it does, with as many steps as it may need.
func (p Pass) IsKept(t T, m, made api.Module) bool {
	t.Helper()
	for _, steps := range []int{0, 1, 2, 5, 12, 40, 150, 700} {
		need := steps
		if p.Steps != nil {
			need = p.Steps(steps)
		}
		a, b := Run(t, m, steps), Run(t, made, need)
		if !irsem.Agree(a, b) || a.End != api.EnSteps && a.End != b.End {
			return false
		}
	}
	return true
}

// ExpectKept wants IsKept.
func (p Pass) ExpectKept(t T, m, made api.Module) {
	t.Helper()
	if !p.IsKept(t, m, made) {
		t.Fatalf("%s\ndoes something else than\n%s", Text(made), Text(m))
	}
}
