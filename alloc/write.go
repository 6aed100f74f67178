package alloc

import "cupel/api"

// Registers of the machine that virtual registers do not get.
const (
	spareA  = 6 // for what an instruction reads as A, or writes
	spareB  = 7 // for what it reads as B
	frameAt = 8 // the address of the frame
	result  = 9 // what a function returns
)

// writer writes the code of an image.
type writer struct {
	code  []api.MInstr
	words int64
}

func (w *writer) add(x api.MInstr) {
	w.code = append(w.code, x)
	w.words++
	if x.Op == api.MoWide {
		w.words++
	}
}

// write writes the code of a program. Calls name functions, until the addresses of all of them are known.
func (p *program) write() *writer {
	w := &writer{}
	w.add(api.MInstr{Op: api.MoSet, D: frameAt, Imm: int64(p.Words)})
	w.add(api.MInstr{Op: api.MoCall, Imm: int64(p.Main)})
	w.add(api.MInstr{Op: api.MoHalt})
	var starts []int64
	for _, f := range p.funcs {
		starts = append(starts, w.words)
		w.blocks(f)
	}
	for i := range w.code {
		if x := &w.code[i]; x.Op == api.MoCall {
			x.Imm = starts[x.Imm]
		}
	}
	return w
}

// blocks writes those of a function. Jumps name blocks, until the addresses of all of them are known.
func (w *writer) blocks(f *function) {
	c := coder{w, f}
	starts := make([]int64, len(f.Blocks))
	for b, list := range f.Blocks {
		starts[b] = w.words
		for _, x := range list {
			if x.Op == api.VcJump && x.Imm == int64(b)+1 {
				continue
			}
			c.instr(x)
			if leads(x) {
				jump := len(w.code) - 1
				defer func() { w.code[jump].Imm = starts[x.Imm] }()
			}
		}
	}
}
