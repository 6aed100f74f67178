package alloc_test

import (
	"testing"

	"cupel/api"
	"cupel/irsem"
	"cupel/target"
)

// machine makes the instructions of an image, one after the other.
type machine struct {
	code   map[int64]api.MInstr // by addresses
	nexts  map[int64]int64      // the addresses behind them
	regs   [api.MachRegs]int64
	memory [api.MaxMemory]int64
	at     int64
	calls  []int64
	b      api.Behaviour // End 0: it goes on
}

func newMachine(t *testing.T, i api.Image) *machine {
	t.Helper()
	m := &machine{code: map[int64]api.MInstr{}, nexts: map[int64]int64{}, at: int64(i.Entry)}
	for at := 0; at < len(i.Code); {
		x, next, e := target.Decode(i.Code, at)
		if e != api.OK {
			t.Fatalf("Decode at %d: error %d", at, e)
		}
		m.code[int64(at)], m.nexts[int64(at)] = x, int64(next)
		at = next
	}
	copy(m.memory[:], i.Data)
	return m
}

// runImage is what a valid image does with each of these numbers of steps, which ascend.
func runImage(t *testing.T, i api.Image, steps ...int) []api.Behaviour {
	t.Helper()
	var list []api.Behaviour
	m, done := newMachine(t, i), 0
	for _, n := range steps {
		for ; m.b.End == 0 && done < n; done++ {
			m.step()
		}
		b := m.b
		if b.End == 0 {
			b.End = api.EnSteps
		}
		list = append(list, b)
	}
	return list
}

func (m *machine) trap(code int) { m.b.End, m.b.Code = api.EnTrap, code }

func (m *machine) step() {
	x, is := m.code[m.at]
	if !is {
		m.trap(api.TrCode)
		return
	}
	m.at = m.nexts[m.at]
	a, b := m.regs[x.A], m.regs[x.B]
	switch x.Op {
	case api.MoMove:
		m.regs[x.D] = a
	case api.MoSet, api.MoWide:
		m.regs[x.D] = x.Imm
	case api.MoLoad, api.MoStore:
		m.access(x, a+x.Imm)
	case api.MoJump:
		m.at = x.Imm
	case api.MoZero:
		if a == 0 {
			m.at = x.Imm
		}
	case api.MoCheck:
		m.inside(a, b)
	case api.MoCheckI:
		m.inside(a, x.Imm)
	case api.MoPrint:
		if len(m.b.Out) == api.MaxOut {
			m.b.End = api.EnSteps
			return
		}
		m.b.Out = append(m.b.Out, a)
	case api.MoCall, api.MoReturn:
		m.turn(x)
	case api.MoTrap:
		m.trap(api.TrStated)
	case api.MoHalt:
		m.b.End = api.EnDone
	default:
		kind := x.Op - api.MoBin
		if x.Op > api.MoBinI {
			kind, b = x.Op-api.MoBinI, x.Imm
		}
		v, trap, _ := irsem.Bin(kind, a, b)
		if trap {
			m.trap(api.TrDivide)
			return
		}
		m.regs[x.D] = v
	}
}

func (m *machine) inside(a, b int64) {
	if a < 0 || a >= b {
		m.trap(api.TrIndex)
	}
}

func (m *machine) access(x api.MInstr, place int64) {
	switch {
	case place < 0 || place >= api.MaxMemory:
		m.trap(api.TrMemory)
	case x.Op == api.MoLoad:
		m.regs[x.D] = m.memory[place]
	default:
		m.memory[place] = m.regs[x.B]
	}
}

// turn makes a call, or returns from one.
func (m *machine) turn(x api.MInstr) {
	last := len(m.calls) - 1
	switch {
	case x.Op == api.MoCall && len(m.calls) < api.MaxDepth:
		m.calls, m.at = append(m.calls, m.at), x.Imm
	case x.Op == api.MoReturn && last >= 0:
		m.at, m.calls = m.calls[last], m.calls[:last]
	default:
		m.trap(api.TrCalls)
	}
}
