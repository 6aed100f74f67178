package alloc_test

import (
	"slices"
	"testing"

	"cupel/api"
	"cupel/samples"
	"cupel/target"
)

// reader reads the code of an image beside the virtual code of which it was made.
type reader struct {
	*testing.T
	code  []uint64
	at    int
	given map[int]int // registers of the machine, by those of the function
}

func (r *reader) next() api.MInstr {
	x, next, e := target.Decode(r.code, r.at)
	if e != api.OK {
		r.Fatalf("Decode at %d: error %d", r.at, e)
	}
	r.at = next
	return x
}

// give says that a register has one of the machine.
func (r *reader) give(reg, machine int, isSpilled bool) {
	if reg < 0 || isSpilled {
		return
	}
	if known, is := r.given[reg]; is && known != machine {
		r.Fatalf("r%d has the registers %d and %d of the machine", reg, known, machine)
	}
	r.given[reg] = machine
}

// instr reads the code of an instruction of a function where these registers are spilled.
func (r *reader) instr(x api.VInstr, spilled []int, isNext bool) {
	if x.Op == api.VcJump && isNext {
		return
	}
	for _, reg := range []int{x.A, x.B} {
		if slices.Contains(spilled, reg) {
			r.next()
		}
	}
	y := r.next()
	d, a, b := y.D, y.A, y.B
	switch x.Op {
	case api.VcArg:
		a = y.B
	case api.VcCall:
		r.next()
		r.next()
	case api.VcReturn:
		if x.A >= 0 {
			r.next()
		}
	}
	if slices.Contains(spilled, x.D) {
		r.next()
	}
	r.give(x.D, d, slices.Contains(spilled, x.D))
	r.give(x.A, a, slices.Contains(spilled, x.A))
	r.give(x.B, b, slices.Contains(spilled, x.B))
}

// givenOf returns, for each function, the registers of the machine that its registers have in the code of its image.
func givenOf(t *testing.T, v api.VCode, k int, faults ...int) []map[int]int {
	t.Helper()
	var list []map[int]int
	r := &reader{T: t, code: imageOf(t, v, k, faults...).Code, at: 3}
	for f := range v.Funcs {
		r.given = map[int]int{}
		spilled := spilledOf(t, v, f, k, faults...)
		for b, block := range v.Funcs[f].Blocks {
			for _, x := range block {
				r.instr(x, spilled, x.Imm == int64(b)+1)
			}
		}
		list = append(list, r.given)
	}
	if r.at != len(r.code) {
		t.Fatalf("%s\nhas code of %d words, not %d", samples.VirtualText(v), len(r.code), r.at)
	}
	return list
}

// overCall reports whether a call is within a span.
func overCall(f api.VFunc, s api.VSpan) bool {
	p := 0
	for _, block := range f.Blocks {
		for _, x := range block {
			if x.Op == api.VcCall && s.From < 2*p+1 && 2*p+1 < s.To {
				return true
			}
			p++
		}
	}
	return false
}

// P22.3: in what Alloc returns without faults, registers with the same one of the machine have spans without a common point, and those with spans that contain a call have none. All others have one of the k.
func TestNoTwoAtOnce(t *testing.T) {
	t.Parallel()
	shared, over := 0, 0
	codes(t, 80, func(v api.VCode) {
		for k := range most + 1 {
			for f, given := range givenOf(t, v, k) {
				spilled, last := spilledOf(t, v, f, k), map[int][]api.VSpan{}
				for _, s := range spansOf(t, v, f) {
					n, is := given[s.Reg]
					switch isSpilled := slices.Contains(spilled, s.Reg); {
					case is == isSpilled || is && (n < 0 || n >= k):
						t.Fatalf("%s\nwith %d: r%d of %d has %d, spilled are %v", samples.VirtualText(v), k, s.Reg, f, n, spilled)
					case isSpilled:
						continue
					}
					if overCall(v.Funcs[f], s) {
						t.Fatalf("%s\nwith %d: r%d of %d has %d over a call", samples.VirtualText(v), k, s.Reg, f, n)
					}
					for _, other := range last[n] {
						if shared++; s.From <= other.To && other.From <= s.To {
							t.Fatalf("%s\nwith %d: %v and %v of %d have %d", samples.VirtualText(v), k, s, other, f, n)
						}
					}
					last[n] = append(last[n], s)
				}
			}
		}
		for f := range v.Funcs {
			for _, s := range spansOf(t, v, f) {
				if overCall(v.Funcs[f], s) {
					over++
				}
			}
		}
	})
	if shared < 1000 || over < 1000 {
		t.Errorf("%d pairs, %d spans with calls", shared, over)
	}
}
