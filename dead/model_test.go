package dead_test

import (
	"regexp"
	"slices"
	"strconv"
	"strings"

	"cupel/api"
	"cupel/samples"
)

// The model changes the canonical text of a module: what the chapter asks for are words, which are looked for anew in all lines each time.

type model struct {
	samples.Listing
	faults []int
}

var (
	registerName = regexp.MustCompile(`^r[0-9]+$`)
	blockName    = regexp.MustCompile(`\bb[0-9]+\b`)
)

// modelRun makes so many applications.
func modelRun(m api.Module, k int, x api.Limit) (api.Module, []api.Applied, api.Errno) {
	d := &model{samples.ListingOf(m, k), x.Faults}
	list, most := []api.Applied{}, x.Most
	may := func(rule, block, index int) bool {
		if rule == 0 || most == 0 {
			return false
		}
		most--
		list = append(list, api.Applied{Pass: api.PsDead, Rule: rule, Func: k, Block: block, Index: index})
		return true
	}
	for last := -1; last < len(list); {
		last = len(list)
		for b := len(d.Blocks) - 1; b >= 0; b-- {
			for i := len(d.Blocks[b]) - 2; i >= 0; i-- {
				if may(d.rule(b, i), b, i) {
					d.Blocks[b] = slices.Delete(d.Blocks[b], i, i+1)
				}
			}
		}
		numbers, first := d.reached()
		if first >= 0 && may(5, first, -1) {
			d.leave(numbers)
		}
	}
	made, e := d.Module()
	return made, list, e
}

// rule returns which rule there is for an instruction, or 0.
func (d *model) rule(b, i int) int {
	w := d.Blocks[b][i].Words
	switch {
	case registerName.MatchString(w[0]) && w[1] != "call" && !d.traps(w) && !d.uses(w[0]):
		return 1
	case w[0] == "check" && isWithin(w[1], w[2]):
		return 2
	case w[0] == "store" && d.isUnread(w[1]):
		return 3
	case w[0] == "put" && d.isHidden(w[1], d.Blocks[b][i+1:]):
		return 4
	}
	return 0
}

func (d *model) traps(w []string) bool {
	return (w[1] == "div" || w[1] == "rem") && (w[3][0] == 'r' || w[3] == "0") && !slices.Contains(d.faults, api.FtDivision)
}

// uses reports whether a register stands anywhere but where it is defined.
func (d *model) uses(r string) bool {
	for _, block := range d.Blocks {
		for _, l := range block {
			if i := slices.Index(l.Words, r); i > 0 || i == 0 && slices.Contains(l.Words[1:], r) {
				return true
			}
		}
	}
	return false
}

func isWithin(index, bound string) bool {
	a, wrong := strconv.ParseInt(index, 10, 64)
	b, wrongToo := strconv.ParseInt(bound, 10, 64)
	return wrong == nil && wrongToo == nil && 0 <= a && a < b
}

func (d *model) isUnread(array string) bool {
	if n, _ := strconv.Atoi(array[1:]); !strings.HasPrefix(d.Decls[n], "local") {
		return false
	}
	for _, block := range d.Blocks {
		for _, l := range block {
			if l.Words[0] != "store" && slices.Contains(l.Words, array) {
				return false
			}
		}
	}
	return true
}

// isHidden reports whether what is put into a cell is never seen, by the lines behind that.
func (d *model) isHidden(cell string, behind []samples.Line) bool {
	for _, l := range behind {
		if slices.Contains(l.Words, "call") {
			return false
		}
		if slices.Contains(l.Words, cell) && (l.Words[0] == "put" || !slices.Contains(d.faults, api.FtOverGet)) {
			return l.Words[0] == "put"
		}
	}
	return false
}

// reached returns the numbers that the blocks that are reached would have without the others, and the first one of those, or -1.
func (d *model) reached() (numbers map[string]int, first int) {
	numbers = map[string]int{"b0": 0}
	for count := 0; count < len(numbers); {
		count = len(numbers)
		for b, block := range d.Blocks {
			if _, is := numbers[nameOf(b)]; is {
				for _, to := range blockName.FindAllString(block[len(block)-1].Text, -1) {
					numbers[to] = 0
				}
			}
		}
	}
	first, next := -1, 0
	for b := range d.Blocks {
		if _, is := numbers[nameOf(b)]; is {
			numbers[nameOf(b)] = next
			next++
		} else if first < 0 {
			first = b
		}
	}
	return numbers, first
}

func nameOf(b int) string { return "b" + strconv.Itoa(b) }

// leave leaves out all blocks that have no number.
func (d *model) leave(numbers map[string]int) {
	var kept [][]samples.Line
	for b, code := range d.Blocks {
		if _, is := numbers[nameOf(b)]; is {
			for i, l := range code {
				code[i] = samples.LineOf(renumber(l.Text, numbers))
			}
			kept = append(kept, code)
		}
	}
	d.Blocks = kept
}

// renumber gives blocks their numbers in a line; what belongs to others in a phi is left out.
func renumber(text string, numbers map[string]int) string {
	if before, pairs, is := strings.Cut(text, "phi "); is {
		list := slices.DeleteFunc(strings.Split(pairs[:len(pairs)-1], ", "), func(pair string) bool {
			_, is := numbers[blockName.FindString(pair)]
			return !is
		})
		text = before + "phi " + strings.Join(list, ", ") + ";"
	}
	return blockName.ReplaceAllStringFunc(text, func(name string) string { return nameOf(numbers[name]) })
}
