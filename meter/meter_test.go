package meter_test

import (
	"fmt"
	"slices"
	"testing"

	"cupel/api"
	"cupel/meter"
)

// behaviour is that of a run with so many steps.
func behaviour(steps int, run func(m *meter.Meter)) string {
	m := meter.New(steps)
	return fmt.Sprint(m.Behaviour(func() { run(&m) }))
}

// P10.2, P21.3: steps are counted before they are made; what ends a run leaves all calls.
func TestEnds(t *testing.T) {
	steps := func(n int, last func(m *meter.Meter)) func(m *meter.Meter) {
		return func(m *meter.Meter) {
			for i := range n {
				m.Step()
				m.Print(int64(i))
			}
			last(m)
		}
	}
	nothing := func(*meter.Meter) {}
	trap := func(m *meter.Meter) { m.Trap(api.TrIndex) }
	for _, c := range []struct {
		steps int
		run   func(m *meter.Meter)
		want  string
	}{
		{0, nothing, "{[] 1 0}"},
		{0, steps(1, nothing), "{[] 4 0}"},
		{2, steps(3, nothing), "{[0 1] 4 0}"},
		{3, steps(3, nothing), "{[0 1 2] 1 0}"},
		{4, steps(3, nothing), "{[0 1 2] 1 0}"},
		{2, steps(3, trap), "{[0 1] 4 0}"},
		{3, steps(3, trap), "{[0 1 2] 2 2}"},
		{0, trap, "{[] 2 2}"},
		{5, steps(1, steps(2, steps(1, trap))), "{[0 0 1 0] 2 2}"},
	} {
		if got := behaviour(c.steps, c.run); got != c.want {
			t.Errorf("with %d steps: %s, want %s", c.steps, got, c.want)
		}
	}
}

// P10.2, P21.3: one number more than MaxOut ends the run, and is not printed.
func TestPrintsTooMuch(t *testing.T) {
	for _, n := range []int{api.MaxOut, api.MaxOut + 1} {
		m := meter.New(0)
		b := m.Behaviour(func() {
			for range n {
				m.Print(1)
			}
			m.Trap(api.TrStated)
		})
		end, code := api.EnTrap, api.TrStated
		if n > api.MaxOut {
			end, code = api.EnSteps, 0
		}
		if !slices.Equal(b.Out, slices.Repeat([]int64{1}, api.MaxOut)) || b.End != end || b.Code != code {
			t.Errorf("%d numbers: %d, end %d, %d", n, len(b.Out), b.End, b.Code)
		}
	}
}
