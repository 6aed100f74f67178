package ssa_test

import (
	"fmt"
	"maps"
	"math/rand/v2"
	"slices"
	"strings"
)

// maker writes modules that are valid. Functions call those that were made before; Main is the last one.
type maker struct {
	*rand.Rand
	noPhis bool
	cells  int
	arrays []array // of the module
	funcs  []function
}

// array is an array that a function names: its declaration, and the index if it is one of the module, or -1.
type array struct {
	decl, size string
	global     int
}

type function struct {
	name         string
	params, regs int
	result       bool
	arrays       []array
	wanted       []string     // the sizes of the arrays that are to be given
	named        map[int]bool // the arrays of the module that it names, or a function that it calls
	text         string
}

// makeModule makes a module, with phis or without.
func makeModule(seed uint64, phis bool) string {
	k := &maker{Rand: random(seed), noPhis: !phis}
	var text strings.Builder
	for k.cells < k.IntN(4) {
		fmt.Fprintf(&text, "cell c%d = %s;\n", k.cells, k.number())
		k.cells++
	}
	for i := range k.IntN(4) {
		size := k.size()
		k.arrays = append(k.arrays, array{fmt.Sprintf("global x%d; ", i), size, i})
		fmt.Fprintf(&text, "array x%d%s;\n", i, size)
	}
	count := 1 + k.IntN(5)
	for i := range count {
		k.function(i, i == count-1)
	}
	fmt.Fprintf(&text, "main f%d;\n", count-1)
	for _, i := range k.Perm(count) {
		text.WriteString(k.funcs[i].text)
	}
	return text.String()
}

func (k *maker) pick(list ...string) string { return list[k.IntN(len(list))] }

func (k *maker) size() string {
	return k.pick("[1]", "[2]", "[2]", "[2]", "[3]", "[2] small", "[2] small")
}

func (k *maker) number() string {
	return k.pick("0", "0", "1", "1", "2", "3", "-1", "-2", "7", "64", "255", "300", "-300", "9223372036854775807", "-9223372036854775808")
}

func (k *maker) function(i int, isMain bool) {
	f := function{name: fmt.Sprint("f", i), regs: 1 + k.IntN(5), named: map[int]bool{}}
	head := ""
	if !isMain {
		f.params, f.result = k.IntN(4), k.IntN(3) > 0
		f.regs += f.params
	}
	if f.result {
		head = " result"
	}
	k.declare(&f, isMain)
	f.text = fmt.Sprintf("func %s params %d regs %d%s { ", f.name, f.params, f.regs, head)
	for _, a := range f.arrays {
		f.text += a.decl
	}
	ends, entries := k.ends(f)
	for b, end := range ends {
		f.text += fmt.Sprintf("\n\tb%d: ", b)
		k.phis(&f, entries[b])
		for range k.IntN(8) {
			f.text += k.instr(&f)
		}
		f.text += end
	}
	f.text += "}\n"
	k.funcs = append(k.funcs, f)
}

// declare chooses the arrays of a function.
func (k *maker) declare(f *function, isMain bool) {
	for _, a := range k.arrays {
		if k.IntN(2) == 0 {
			f.arrays = append(f.arrays, a)
			f.named[a.global] = true
		}
	}
	for range k.IntN(4) {
		size := k.size()
		kind := k.pick("local", "param")
		if isMain {
			kind = "local"
		}
		f.arrays = append(f.arrays, array{kind + size + "; ", size, -1})
	}
	k.Shuffle(len(f.arrays), func(i, j int) { f.arrays[i], f.arrays[j] = f.arrays[j], f.arrays[i] })
	for _, a := range f.arrays {
		if strings.HasPrefix(a.decl, "param") {
			f.wanted = append(f.wanted, a.size)
		}
	}
}

// target draws the blocks to which a block leads: in some functions mostly those behind it, in others any, or those near to it.
func (k *maker) target(style, b, count int) int {
	switch {
	case style == 0 && b+1 < count && k.IntN(4) > 0:
		return b + 1 + k.IntN(count-b-1)
	case style == 1:
		return min(max(1, b-2+k.IntN(6)), count-1)
	}
	return 1 + k.IntN(count-1)
}

// ends writes the ends of all blocks, and says from which blocks each one is entered.
func (k *maker) ends(f function) (ends []string, entries [][]int) {
	count, style := 1+k.IntN(12), k.IntN(3)
	entries = make([][]int, count)
	for b := range count {
		kind := k.IntN(20)
		if b+1 == count {
			kind = 10 + k.IntN(10)
		}
		switch {
		case count > 1 && kind < 5:
			to := k.target(style, b, count)
			entries[to] = append(entries[to], b)
			ends = append(ends, fmt.Sprintf("jump b%d; ", to))
		case count > 1 && kind < 17:
			to, other := k.target(style, b, count), k.target(style, b, count)
			entries[to] = append(entries[to], b)
			if other != to {
				entries[other] = append(entries[other], b)
			}
			ends = append(ends, fmt.Sprintf("branch %s, b%d, b%d; ", k.opd(f), to, other))
		case kind == 18 && k.IntN(3) == 0:
			ends = append(ends, "trap; ")
		case f.result:
			ends = append(ends, "return "+k.opd(f)+"; ")
		default:
			ends = append(ends, "return; ")
		}
	}
	return ends, entries
}

func (k *maker) opd(f function) string {
	if k.IntN(3) > 0 {
		return k.register(f)
	}
	return k.number()
}

func (k *maker) register(f function) string { return fmt.Sprint("r", k.IntN(f.regs)) }

// list writes parts with commas between them.
func list[T any](of []T, write func(T) string) string {
	var parts []string
	for _, x := range of {
		parts = append(parts, write(x))
	}
	return strings.Join(parts, ", ")
}

func (k *maker) phis(f *function, entries []int) {
	if len(entries) == 0 || k.noPhis {
		return
	}
	for range k.IntN(4) {
		args := list(entries, func(b int) string { return fmt.Sprintf("b%d: %s", b, k.opd(*f)) })
		f.text += k.register(*f) + " = phi " + args + "; "
	}
}

func (k *maker) instr(f *function) string {
	to, a, b := k.register(*f)+" = ", k.opd(*f), k.opd(*f)
	switch kind := k.IntN(20); {
	case kind == 0:
		return to + a + "; "
	case kind < 6:
		word := k.pick("add", "add", "sub", "mul", "and", "or", "xor", "shl", "shr", "eq", "ne", "lt", "le")
		return to + word + " " + a + ", " + b + "; "
	case kind == 6:
		if k.IntN(4) > 0 {
			b = k.pick("1", "2", "-1", "-2", "7")
		}
		return to + k.pick("div ", "rem ") + a + ", " + b + "; "
	case kind == 7:
		if k.IntN(4) > 0 {
			a, b = k.pick("0", "1", "2"), k.pick("3", "4", "9223372036854775807")
		}
		return "check " + a + ", " + b + "; "
	case kind < 10 && len(f.arrays) > 0:
		return fmt.Sprintf("%sload a%d[%s]; ", to, k.IntN(len(f.arrays)), a)
	case kind < 12 && len(f.arrays) > 0:
		return fmt.Sprintf("store a%d[%s] = %s; ", k.IntN(len(f.arrays)), a, b)
	case kind == 12 && k.cells > 0:
		return fmt.Sprintf("%sget c%d; ", to, k.IntN(k.cells))
	case kind == 13 && k.cells > 0:
		return fmt.Sprintf("put c%d = %s; ", k.IntN(k.cells), a)
	case kind < 16 && len(k.funcs) > 0:
		return k.call(f, to)
	}
	return "print " + a + "; "
}

// call writes a call of one of the functions that were made before, or nothing if its arrays cannot be given.
func (k *maker) call(f *function, to string) string {
	g := k.funcs[k.IntN(len(k.funcs))]
	var given []int
	for _, size := range g.wanted {
		fits := func(i int) bool {
			return f.arrays[i].size == size && !g.named[f.arrays[i].global] && !slices.Contains(given, i)
		}
		order := k.Perm(len(f.arrays))
		i := slices.IndexFunc(order, fits)
		if i < 0 {
			return ""
		}
		given = append(given, order[i])
	}
	maps.Copy(f.named, g.named)
	text := g.name + "(" + list(slices.Repeat([]int{0}, g.params), func(int) string { return k.opd(*f) })
	if len(given) > 0 {
		text += "; " + list(given, func(i int) string { return fmt.Sprint("a", i) })
	}
	if !g.result || k.IntN(4) == 0 {
		to = ""
	}
	return to + "call " + text + "); "
}
