package alloc_test

import (
	"fmt"
	"regexp"
	"slices"
	"strconv"
	"strings"
	"testing"

	"cupel/api"
	"cupel/samples"
	"cupel/target"
)

// line is an instruction of virtual code as words, with the registers that it reads and writes, and the lines that may follow it.
type line struct {
	words []string
	reads []int
	to    int // -1: none
	next  []int
}

// model is what a function is by another account: what it gets with so many registers of the machine and faults.
type model struct {
	f      api.VFunc
	faults []int
	lines  []line
	firsts []int // of the blocks
	spans  []api.VSpan
	given  map[int]int // registers of the machine, -1: spilled
	places map[int]int
	size   int // of the frame
}

func newModel(f api.VFunc, k int, faults []int) *model {
	m := &model{f: f, faults: faults, given: map[int]int{}, places: map[int]int{}}
	m.readLines()
	m.findSpans()
	m.scan(k)
	m.findPlaces()
	return m
}

func (m *model) on(fault int) bool { return slices.Contains(m.faults, fault) }

func (m *model) readLines() {
	for _, block := range m.f.Blocks {
		m.firsts = append(m.firsts, len(m.lines))
		for _, text := range strings.Split(strings.TrimSuffix(samples.VirtualCode(block...), ";"), ";") {
			l := line{words: samples.LineOf(text).Words, to: -1}
			for i, w := range l.words[1:] {
				switch {
				case w[0] == 'r' && fieldsOf[l.words[0]][i] == 'D':
					l.to = integer(w[1:])
				case w[0] == 'r':
					l.reads = append(l.reads, integer(w[1:]))
				}
			}
			m.lines = append(m.lines, l)
		}
	}
	for p := range m.lines {
		l := &m.lines[p]
		switch last := l.words[len(l.words)-1]; l.words[0] {
		case "jump":
			l.next = []int{m.firsts[integer(last)]}
		case "zero":
			l.next = []int{m.firsts[integer(last)], p + 1}
		case "return", "trap":
		default:
			l.next = []int{p + 1}
		}
	}
}

// fieldsOf has the fields of operations, by their words.
var fieldsOf = allFields()

func allFields() map[string]string {
	all := map[string]string{}
	for _, o := range samples.VirtualOps() {
		all[o.Word] = o.Fields
	}
	return all
}

func integer(s string) int {
	n, _ := strconv.Atoi(s)
	return n
}

// findSpans collects the points of each register, where those at which it is live are found from its reads backwards.
func (m *model) findSpans() {
	before := make([][]int, len(m.lines))
	for p, l := range m.lines {
		for _, q := range l.next {
			before[q] = append(before[q], p)
		}
	}
	points, reads := map[int][]int{}, map[int][]int{}
	for p, l := range m.lines {
		for _, r := range l.reads {
			reads[r] = append(reads[r], p)
			points[r] = append(points[r], 2*p)
		}
		if l.to >= 0 {
			points[l.to] = append(points[l.to], 2*p+1)
		}
	}
	for r, work := range reads {
		seen := map[int]bool{}
		for len(work) > 0 && !m.on(api.FtAlloc3) {
			p := work[0]
			work = work[1:]
			if seen[p] {
				continue
			}
			seen[p] = true
			points[r] = append(points[r], 2*p)
			for _, q := range before[p] {
				if m.lines[q].to != r {
					work = append(work, q)
				}
			}
		}
	}
	for r := range m.f.Regs {
		if l := points[r]; len(l) > 0 {
			m.spans = append(m.spans, api.VSpan{Reg: r, From: slices.Min(l), To: slices.Max(l)})
		}
	}
}

// hasCall reports whether a span contains a call.
func (m *model) hasCall(s api.VSpan) bool {
	for p, l := range m.lines {
		if at := 2*p + 1; l.words[0] == "call" && s.From < at && at < s.To {
			return true
		}
	}
	return false
}

// scan looks for the next span among all that are left, and for the one to be spilled among the registers of the machine.
func (m *model) scan(k int) {
	left := map[int]api.VSpan{}
	for _, s := range m.spans {
		m.given[s.Reg] = -1
		if m.on(api.FtAlloc1) || !m.hasCall(s) {
			left[s.Reg] = s
		}
	}
	holders := map[int]api.VSpan{} // by registers of the machine
	for len(left) > 0 {
		s := api.VSpan{From: greatest}
		for _, other := range left {
			if other.From < s.From || other.From == s.From && other.Reg < s.Reg {
				s = other
			}
		}
		delete(left, s.Reg)
		worst := -1
		for n := range k {
			h, is := holders[n]
			if is && h.To < s.From {
				delete(holders, n)
				is = false
			}
			if w := holders[worst]; is && (worst < 0 || h.To > w.To || h.To == w.To && h.Reg > w.Reg) {
				worst = n
			}
		}
		if len(holders) < k {
			n := 0
			for _, is := holders[n]; is; _, is = holders[n] {
				n++
			}
			holders[n], m.given[s.Reg] = s, n
		} else if w := holders[worst]; worst >= 0 && (w.To > s.To || w.To == s.To && w.Reg > s.Reg) {
			holders[worst], m.given[s.Reg], m.given[w.Reg] = s, worst, -1
		}
	}
}

// spilled are the registers that are spilled.
func (m *model) spilled() []int {
	var list []int
	for _, s := range m.spans {
		if m.given[s.Reg] < 0 {
			list = append(list, s.Reg)
		}
	}
	return list
}

func (m *model) findPlaces() {
	m.size = m.f.Args
	for _, n := range m.f.Locals {
		m.size += n
	}
	first := m.size
	for i, r := range m.spilled() {
		m.places[r] = m.size
		if i == 1 && m.on(api.FtAlloc2) {
			m.places[r] = first
		}
		m.size++
	}
}

// modelText is the text of the image of virtual code with these functions, with names for addresses: @2 of a function, @2.5 of a block.
func modelText(v api.VCode, list []*model) string {
	w := &modelWriter{}
	w.add("entry 0")
	for _, d := range v.Data {
		w.add("data %d", d)
	}
	w.add("set r8, %d", v.Words)
	w.add("call @%d", v.Main)
	w.add("halt")
	for i, m := range list {
		w.model, w.index = m, i
		fmt.Fprintf(w, "@%d:\n", i)
		for p, l := range m.lines {
			if b := slices.Index(m.firsts, p); b >= 0 {
				w.block = b
				fmt.Fprintf(w, "@%d.%d:\n", i, b)
			}
			w.line(l)
		}
	}
	return w.String()
}

// modelWriter writes the lines of an image.
type modelWriter struct {
	strings.Builder
	*model
	index, block int
}

func (w *modelWriter) add(format string, args ...any) { fmt.Fprintf(w, format+";\n", args...) }

func (w *modelWriter) line(l line) {
	spares := []string{"r6", "r7"}
	for i, r := range l.reads {
		if place, is := w.places[r]; is {
			w.add("load %s, %d(r8)", spares[i], place)
		}
	}
	words := slices.Clone(l.words)
	for i := range words {
		switch {
		case i == 0 || words[i][0] != 'r':
		case fieldsOf[words[0]][i-1] == 'D':
			words[i] = w.register(words[i], "r6")
		default:
			words[i] = w.register(words[i], spares[0])
			spares = spares[1:]
		}
	}
	w.body(words)
	if place, is := w.places[l.to]; is {
		w.add("store %d(r8), r6", place)
	}
}

func (w *modelWriter) register(name, spare string) string {
	if n := w.given[integer(name[1:])]; n >= 0 {
		return fmt.Sprint("r", n)
	}
	return spare
}

// body writes what belongs to the words of an instruction, with registers of the machine.
func (w *modelWriter) body(words []string) {
	switch word := words[0]; word {
	case "set":
		if v, _ := strconv.ParseInt(words[2], 10, 64); v < -2147483648 || v > 2147483647 {
			word = "wide"
		}
		w.add("%s %s, %s", word, words[1], words[2])
	case "load":
		w.add("load %s, %s(%s)", words[1], words[2], words[3])
	case "store":
		w.add("store %s(%s), %s", words[1], words[2], words[3])
	case "local":
		at := w.f.Args
		for _, n := range w.f.Locals[:integer(words[2])] {
			at += n
		}
		w.add("addi %s, r8, %d", words[1], at)
	case "param":
		w.add("load %s, %s(r8)", words[1], words[2])
	case "arg":
		w.add("store %d(r8), %s", w.size+integer(words[1]), words[2])
	case "call":
		w.add("addi r8, r8, %d", w.size)
		w.add("call @%s", words[1])
		w.add("subi r8, r8, %d", w.size)
	case "result":
		w.add("move %s, r9", words[1])
	case "zero":
		w.add("zero %s, @%d.%s", words[1], w.index, words[2])
	case "jump":
		if integer(words[1]) != w.block+1 {
			w.add("jump @%d.%s", w.index, words[1])
		}
	case "return":
		if len(words) > 1 {
			w.add("move r9, %s", words[1])
		}
		w.add("return")
	default:
		w.add("%s", strings.TrimSpace(word+" "+strings.Join(words[1:], ", ")))
	}
}

var names = regexp.MustCompile(`@[0-9.]+`)

// modelImage is the image of a text with names.
func modelImage(t *testing.T, text string) api.Image {
	t.Helper()
	addresses, at := map[string]int{}, 0
	var lines []string
	for _, l := range strings.Split(text, "\n") {
		name, is := strings.CutSuffix(l, ":")
		switch {
		case is:
			addresses[name] = at
			continue
		case l == "" || strings.HasPrefix(l, "entry") || strings.HasPrefix(l, "data"):
		case strings.HasPrefix(l, "wide"):
			at += 2
		default:
			at++
		}
		lines = append(lines, l)
	}
	text = names.ReplaceAllStringFunc(strings.Join(lines, "\n"), func(name string) string { return fmt.Sprint(addresses[name]) })
	i, place, e := target.Parse(text)
	if e != api.OK {
		t.Fatalf("%s\nParse: error %d at %d", text, e, place)
	}
	return i
}
