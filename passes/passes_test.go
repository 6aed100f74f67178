// What the passes of the layers from 13 on promise alike: P13.2, P13.3, P14.2, P14.3, P15.2, P15.3, P16.2, P16.3, P17.2, P17.3, P18.2, P18.3, and the order of the errors of P13.1, P14.1, P15.1, P16.1, P17.1 and P18.1. (P1 is tested in the folder rules.)

package passes

import (
	"testing"

	"cupel/api"
	"cupel/samples"
)

// subject is a pass that is tested, on functions in static single assignment form, or on those without phis.
type subject struct{ samples.Pass }

// grows reports whether a pass may make blocks and registers.
func (p subject) grows() bool { return p.IsPlain() || p.Number == api.PsHoist }

// blocks returns how many blocks the functions have at most that a pass is tested with: so few that it may make more.
func (p subject) blocks() int {
	if p.grows() {
		return 40
	}
	return api.MaxIBlocks
}

// each runs a test for each pass.
func each(t *testing.T, test func(t *testing.T, p subject)) {
	for _, p := range samples.Passes() {
		t.Run(p.Name, func(t *testing.T) { test(t, subject{p}) })
	}
}
