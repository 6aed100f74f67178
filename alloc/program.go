package alloc

import (
	"slices"

	"cupel/api"
)

// program is virtual code with what its registers have got.
type program struct {
	*api.VCode
	funcs []*function
	needs map[int]int64 // by functions
}

// function is one of virtual code, with the registers of the machine that it has got, and the places in its frame.
type function struct {
	*api.VFunc
	machine []int         // by registers: that of the machine, or none
	locals  []int64       // the places of local arrays
	places  map[int]int64 // those of the registers that are spilled
	size    int64         // of the frame, in words
}

func newProgram(v *api.VCode, k int, faults []int) *program {
	p := &program{VCode: v, needs: map[int]int64{}}
	for i := range v.Funcs {
		p.funcs = append(p.funcs, newFunction(&v.Funcs[i], k, faults))
	}
	return p
}

func newFunction(f *api.VFunc, k int, faults []int) *function {
	s := scanOf(f, k, faults)
	made := &function{VFunc: f, machine: s.machine, places: map[int]int64{}, size: int64(f.Args)}
	for _, length := range f.Locals {
		made.locals = append(made.locals, made.size)
		made.size += int64(length)
	}
	spilled := s.spilled()
	for _, r := range spilled {
		made.places[r] = made.size
		made.size++
	}
	if len(spilled) > 1 && slices.Contains(faults, api.FtAlloc2) {
		made.places[spilled[1]] = made.places[spilled[0]]
	}
	return made
}

// need returns how many words a function needs, together with those that it calls. Calls end, as the virtual code is valid.
func (p *program) need(f int) int64 {
	if known, is := p.needs[f]; is {
		return known
	}
	most := int64(0)
	for _, list := range p.Funcs[f].Blocks {
		for _, x := range list {
			if x.Op == api.VcCall {
				most = max(most, p.need(int(x.Imm)))
			}
		}
	}
	p.needs[f] = p.funcs[f].size + most
	return p.needs[f]
}
