package alloc

import (
	"cmp"
	"slices"

	"cupel/api"
)

// scan gives registers of the machine to spans, which it takes one after the other.
type scan struct {
	all     []api.VSpan
	count   int         // of registers of the machine
	machine []int       // by registers: that of the machine, or none
	active  []api.VSpan // those that have a register of the machine now: the one that ends last is the last one
}

func scanOf(f *api.VFunc, k int, faults []int) *scan {
	s := &scan{all: spansOf(f, faults), count: k, machine: slices.Repeat([]int{none}, f.Regs)}
	list := slices.Clone(s.all)
	if !slices.Contains(faults, api.FtAlloc1) {
		calls := callsOf(f)
		list = slices.DeleteFunc(list, func(span api.VSpan) bool { return hasCall(span, calls) })
	}
	slices.SortFunc(list, byBegin)
	for _, span := range list {
		s.take(span)
	}
	return s
}

// callsOf returns the points of the calls in a function, ascending.
func callsOf(f *api.VFunc) []int {
	var list []int
	p := 0
	for _, block := range f.Blocks {
		for _, x := range block {
			if x.Op == api.VcCall {
				list = append(list, 2*p+1)
			}
			p++
		}
	}
	return list
}

// hasCall reports whether one of these points is within a span.
func hasCall(span api.VSpan, calls []int) bool {
	next, _ := slices.BinarySearch(calls, span.From+1)
	return next < len(calls) && calls[next] < span.To
}

func byBegin(a, b api.VSpan) int {
	return cmp.Or(cmp.Compare(a.From, b.From), cmp.Compare(a.Reg, b.Reg))
}

func byEnd(a, b api.VSpan) int {
	return cmp.Or(cmp.Compare(a.To, b.To), cmp.Compare(a.Reg, b.Reg))
}

// take gives a span a register of the machine: one that is free, or that of the span that ends last, unless this is that one.
func (s *scan) take(span api.VSpan) {
	s.active = slices.DeleteFunc(s.active, func(a api.VSpan) bool { return a.To < span.From })
	s.active = append(s.active, span)
	slices.SortFunc(s.active, byEnd)
	if len(s.active) <= s.count {
		s.machine[span.Reg] = s.free()
		return
	}
	last := s.active[s.count]
	s.active = s.active[:s.count]
	s.machine[span.Reg] = s.machine[last.Reg]
	s.machine[last.Reg] = none
}

// free returns the least register of the machine that no span has; there has to be one.
func (s *scan) free() int {
	n := 0
	for slices.ContainsFunc(s.active, func(a api.VSpan) bool { return s.machine[a.Reg] == n }) {
		n++
	}
	return n
}

// spilled returns the registers that have none of the machine, ascending.
func (s *scan) spilled() []int {
	var list []int
	for _, span := range s.all {
		if s.machine[span.Reg] == none {
			list = append(list, span.Reg)
		}
	}
	return list
}
