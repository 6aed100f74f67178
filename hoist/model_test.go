package hoist_test

import (
	"cmp"
	"regexp"
	"slices"
	"strconv"
	"strings"

	"cupel/api"
	"cupel/samples"
)

// The model changes the canonical text of a module. Before each application it finds the loops anew by their definition, and what can be moved by words of lines.

type model struct {
	samples.Listing
	faults []int
}

// ring is a loop: whether each block belongs to it.
type ring struct {
	head, size int
	has        []bool
}

// modelRun makes so many applications.
func modelRun(m api.Module, k int, x api.Limit) (api.Module, []api.Applied, api.Errno) {
	d := &model{samples.ListingOf(m, k), x.Faults}
	var list []api.Applied
	for len(list) != x.Most {
		r, b, i := d.next()
		if b < 0 {
			break
		}
		a := api.Applied{Pass: api.PsHoist, Rule: 2, Func: k, Block: b, Index: i}
		if outer := d.outer(r); len(outer) == 1 && d.end(outer[0]).Words[0] == "jump" {
			last := len(d.Blocks[outer[0]]) - 1
			d.Blocks[outer[0]] = slices.Insert(d.Blocks[outer[0]], last, d.Blocks[b][i])
			d.Blocks[b] = slices.Delete(d.Blocks[b], i, i+1)
		} else {
			a.Rule, a.Block, a.Index = 1, r.head, -1
			d.enter(r, outer)
		}
		list = append(list, a)
	}
	made, e := d.Module()
	if e != api.OK {
		return api.Module{}, nil, e
	}
	return made, list, api.OK
}

// next returns the first loop with an instruction that can be moved, and where that is: -1 if there is none.
func (d *model) next() (ring, int, int) {
	order := d.walk(0, -1, d.targets)
	slices.Reverse(order)
	rings := d.rings(order)
	slices.SortFunc(rings, func(a, b ring) int { return cmp.Or(a.size-b.size, a.head-b.head) })
	for _, r := range rings {
		for _, b := range order {
			for i, l := range d.Blocks[b] {
				if r.has[b] && d.canMove(l.Words, d.lines(r)) {
					return r, b, i
				}
			}
		}
	}
	return ring{}, -1, -1
}

// rings returns the loops: of each block to which one leads that is reached, but not without it.
func (d *model) rings(reached []int) []ring {
	var list []ring
	for _, h := range reached {
		without := d.walk(0, h, d.targets)
		has := make([]bool, len(d.Blocks))
		for _, latch := range d.sources(h) {
			if slices.Contains(reached, latch) && !slices.Contains(without, latch) {
				has[h] = true
				for _, b := range d.walk(latch, h, d.sources) {
					has[b] = has[b] || slices.Contains(reached, b)
				}
			}
		}
		size := 0
		for _, is := range has {
			if is {
				size++
			}
		}
		if size > 0 {
			list = append(list, ring{h, size, has})
		}
	}
	return list
}

// walk goes depth first from a block, but not to the block without, and returns which blocks it leaves.
func (d *model) walk(from, without int, next func(b int) []int) (left []int) {
	entered := make([]bool, len(d.Blocks))
	var visit func(b int)
	visit = func(b int) {
		if entered[b] || b == without {
			return
		}
		entered[b] = true
		for _, to := range next(b) {
			visit(to)
		}
		left = append(left, b)
	}
	visit(from)
	return left
}

func (d *model) end(b int) samples.Line { return d.Blocks[b][len(d.Blocks[b])-1] }

// targets returns the blocks to which one leads, ascending.
func (d *model) targets(b int) []int {
	var list []int
	for _, w := range d.end(b).Words[1:] {
		if w[0] == 'b' {
			list = append(list, numberOf(w))
		}
	}
	slices.Sort(list)
	return slices.Compact(list)
}

// sources returns the blocks that lead to one, ascending.
func (d *model) sources(b int) []int {
	var list []int
	for from := range d.Blocks {
		if slices.Contains(d.targets(from), b) {
			list = append(list, from)
		}
	}
	return list
}

func numberOf(word string) int {
	n, _ := strconv.Atoi(word[1:])
	return n
}

// lines returns the words of all lines of a loop.
func (d *model) lines(r ring) [][]string {
	var list [][]string
	for b, block := range d.Blocks {
		for _, l := range block {
			if r.has[b] {
				list = append(list, l.Words)
			}
		}
	}
	return list
}

var register = regexp.MustCompile(`^r[0-9]+$`)

// canMove reports whether an instruction can be moved out of a loop of these lines.
func (d *model) canMove(w []string, lines [][]string) bool {
	if !register.MatchString(w[0]) {
		return false
	}
	isIn := func(first ...string) bool {
		return slices.ContainsFunc(lines, func(l []string) bool { return len(l) >= len(first) && slices.Equal(l[:len(first)], first) })
	}
	for _, r := range w[1:] {
		if register.MatchString(r) && isIn(r) {
			return false
		}
	}
	calls := slices.ContainsFunc(lines, func(l []string) bool { return slices.Contains(l, "call") })
	switch w[1] {
	case "phi", "call":
		return false
	case "get":
		return !calls && !isIn("put", w[2])
	case "load":
		return !calls && (!isIn("store", w[2]) || slices.Contains(d.faults, api.FtStores))
	case "div", "rem":
		return w[3][0] != 'r' && w[3] != "0" || slices.Contains(d.faults, api.FtTrap)
	}
	return true
}

// outer returns the blocks outside of a loop that lead to its head.
func (d *model) outer(r ring) []int {
	return slices.DeleteFunc(d.sources(r.head), func(b int) bool { return r.has[b] })
}

// enter makes a block ahead of a loop.
func (d *model) enter(r ring, outer []int) {
	head, ahead := regexp.MustCompile(`\bb`+strconv.Itoa(r.head)+`\b`), "b"+strconv.Itoa(len(d.Blocks))
	for _, b := range outer {
		last := len(d.Blocks[b]) - 1
		d.Blocks[b][last] = samples.LineOf(head.ReplaceAllString(d.end(b).Text, ahead))
	}
	var code []samples.Line
	for i, l := range d.Blocks[r.head] {
		to, pairs, is := strings.Cut(l.Text, " = phi ")
		if !is {
			break
		}
		var inside, outside []string
		for _, pair := range strings.Split(strings.TrimSuffix(pairs, ";"), ", ") {
			if from, _, _ := strings.Cut(pair, ":"); r.has[numberOf(from)] {
				inside = append(inside, pair)
			} else {
				outside = append(outside, pair)
			}
		}
		_, value, _ := strings.Cut(outside[0], ": ")
		if len(outside) > 1 {
			value = d.AddRegister()
			code = append(code, samples.LineOf(value+" = phi "+strings.Join(outside, ", ")+";"))
		}
		inside = append(inside, ahead+": "+value)
		d.Blocks[r.head][i] = samples.LineOf(to + " = phi " + strings.Join(inside, ", ") + ";")
	}
	d.Blocks = append(d.Blocks, append(code, samples.LineOf("jump b"+strconv.Itoa(r.head)+";")))
}
