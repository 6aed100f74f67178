package choose_test

import (
	"fmt"
	"regexp"
	"slices"
	"strconv"
	"strings"

	"cupel/api"
	"cupel/samples"
)

// writer writes the text of virtual code while it reads the canonical text of a module line by line.
type writer struct {
	faults       []int
	words        int64
	data, code   string
	main         int
	globals      map[string]memory
	funcs        []string
	arrays       []memory
	regs, params int
	next         int // the number of the next new register
}

// memory is an array: its length, whether it is small, and one of: a register, its number among the local arrays, its address.
type memory struct {
	length     int64
	small      bool
	register   string
	number, at int64
}

// modelMake is the text of the virtual code of a module without phis, and how many registers its functions have at most.
func modelMake(m api.Module, faults []int) (text string, most int) {
	w := &writer{faults: faults, globals: map[string]memory{}}
	lines := strings.Split(strings.TrimSuffix(samples.Text(m), "\n"), "\n")
	for _, line := range lines {
		if words := samples.LineOf(line).Words; words[0] == "func" {
			w.funcs = append(w.funcs, words[1])
		}
	}
	for i, line := range lines {
		words := samples.LineOf(strings.TrimSpace(line)).Words
		switch {
		case strings.HasPrefix(line, "func "):
			end := i + slices.Index(lines[i:], "}")
			text += w.function(words, lines[i+1:end])
			most = max(most, w.next)
		case words[0] == "cell":
			w.data += " " + words[2]
			w.words++
		case words[0] == "array":
			w.globals[words[1]] = memory{length: integer(words[2]), small: len(words) > 3, at: w.words}
			w.words += integer(words[2])
		case words[0] == "main":
			w.main = slices.Index(w.funcs, words[1])
		}
	}
	return fmt.Sprintf("words %d; data%s; main %d;%s", w.words, w.data, w.main, text), most
}

func integer(s string) int64 {
	n, _ := strconv.ParseInt(s, 10, 64)
	return n
}

func (w *writer) on(fault int) bool { return slices.Contains(w.faults, fault) }

func (w *writer) add(format string, args ...any) { w.code += fmt.Sprintf(format, args...) + "; " }

// fresh is the name of a new register.
func (w *writer) fresh() string {
	w.next++
	return fmt.Sprint("r", w.next-1)
}

var register = regexp.MustCompile(`^r\d+$`)

func isRegister(token string) bool { return register.MatchString(token) }

// reg is the register for a token.
func (w *writer) reg(token string) string {
	if isRegister(token) {
		return token
	}
	r := w.fresh()
	w.add("set %s, %s", r, token)
	return r
}

// function writes a function with a head and the lines behind it.
func (w *writer) function(head, lines []string) string {
	w.code, w.arrays = "", nil
	w.params, _ = strconv.Atoi(head[3])
	w.regs, _ = strconv.Atoi(head[5])
	w.next = w.regs
	args, locals := w.params, ""
	var blocks [][][]string
	for _, line := range lines {
		words := samples.LineOf(strings.TrimSpace(line)).Words
		switch depth := strings.Count(line, "\t"); {
		case depth == 2:
			last := len(blocks) - 1
			blocks[last] = append(blocks[last], words)
		case words[0] == "local":
			w.arrays = append(w.arrays, memory{length: integer(words[1]), small: len(words) > 2, number: int64(strings.Count(locals, " ")), at: -1})
			locals += " " + words[1]
		case words[0] == "param":
			w.arrays = append(w.arrays, memory{length: integer(words[1]), small: len(words) > 2, register: w.fresh()})
			args++
		case words[0] == "global":
			w.arrays = append(w.arrays, w.globals[words[1]])
		default:
			blocks = append(blocks, nil)
		}
	}
	for b, block := range blocks {
		w.code += fmt.Sprintf("b%d: ", b)
		if b == 0 {
			w.begin(args, strings.Fields(locals), blocks)
		}
		for _, words := range block {
			w.line(words)
		}
	}
	return fmt.Sprintf(" func args %d regs %d locals%s { %s}", args, w.next, locals, w.code)
}

func (w *writer) begin(args int, locals []string, blocks [][][]string) {
	for i := range args {
		to := fmt.Sprint("r", i)
		if i >= w.params {
			to = fmt.Sprint("r", w.regs+i-w.params)
		}
		w.add("param %s, %d", to, i)
	}
	for r := w.params; r < w.regs; r++ {
		if isRead(blocks, 0, fmt.Sprint("r", r), map[int]bool{}) {
			w.add("set r%d, 0", r)
		}
	}
	if len(locals) == 0 {
		return
	}
	zero := w.reg("0")
	for number, length := range locals {
		base := w.fresh()
		w.add("local %s, %d", base, number)
		for i := range integer(length) {
			w.add("store %d, %s, %s", i, base, zero)
		}
	}
}

// isRead reports whether a way from the beginning of a block on leads to a line that reads a register, before one that writes it.
func isRead(blocks [][][]string, b int, register string, seen map[int]bool) bool {
	if seen[b] {
		return false
	}
	seen[b] = true
	for _, words := range blocks[b] {
		if slices.Contains(words[1:], register) {
			return true
		}
		if words[0] == register {
			return false
		}
	}
	last := blocks[b][len(blocks[b])-1]
	for _, token := range last[1:] {
		if token[0] == 'b' && isRead(blocks, int(integer(token[1:])), register, seen) {
			return true
		}
	}
	return false
}

// line writes what belongs to a line of a block.
func (w *writer) line(words []string) {
	to := ""
	if isRegister(words[0]) {
		to, words = words[0]+", ", words[1:]
	}
	switch words[0] {
	case "check":
		w.checks(words[1], words[2])
	case "load":
		at := w.place(words[1], words[2])
		w.add("load %s%s", to, at)
	case "store":
		at := w.place(words[1], words[2])
		w.add("store %s, %s", at, w.kept(words[1], words[3]))
	case "get":
		w.add("load %s%s, %s", to, words[1][1:], w.reg("0"))
	case "put":
		v := w.reg(words[2])
		w.add("store %s, %s, %s", words[1][1:], w.reg("0"), v)
	case "print":
		w.add("print %s", w.reg(words[1]))
	case "call":
		w.call(strings.TrimSuffix(to, ", "), words[1], words[2:])
	case "jump", "branch", "return", "trap":
		w.end(words)
	default:
		w.value(to, words)
	}
}

// value writes a copy or an operation.
func (w *writer) value(to string, words []string) {
	if len(words) == 1 {
		word := "set"
		if isRegister(words[0]) {
			word = "move"
		}
		w.add("%s %s%s", word, to, words[0])
		return
	}
	word, a, b := words[0], words[1], words[2]
	symmetric := strings.Fields("add mul and or xor eq ne")
	if w.on(api.FtChoose1) {
		symmetric = append(symmetric, "sub")
	}
	if !isRegister(a) && isRegister(b) && slices.Contains(symmetric, word) {
		a, b = b, a
	}
	a = w.reg(a)
	if fits(b) {
		w.add("%si %s%s, %s", word, to, a, b)
	} else {
		w.add("%s %s%s, %s", word, to, a, w.reg(b))
	}
}

// fits reports whether a token is a number of 32 bits.
func fits(token string) bool {
	_, wrong := strconv.ParseInt(token, 10, 32)
	return wrong == nil
}

func (w *writer) checks(a, b string) {
	a = w.reg(a)
	if fits(b) {
		w.add("checki %s, %s", a, b)
	} else {
		w.add("check %s, %s", a, w.reg(b))
	}
}

func (w *writer) array(token string) memory { return w.arrays[integer(token[1:])] }

// base is the register with the address of an array.
func (w *writer) base(a memory) string {
	switch {
	case a.register != "":
		return a.register
	case a.at >= 0:
		return w.reg(fmt.Sprint(a.at))
	}
	r := w.fresh()
	w.add("local %s, %d", r, a.number)
	return r
}

// place is the number and the register at which an element is.
func (w *writer) place(array, index string) string {
	a := w.array(array)
	if !isRegister(index) {
		i := integer(index) % a.length
		if i < 0 {
			i += a.length
		}
		return fmt.Sprintf("%d, %s", i, w.base(a))
	}
	t := w.fresh()
	w.add("remi %s, %s, %d", t, index, a.length)
	if !w.on(api.FtChoose2) {
		w.add("addi %s, %s, %d", t, t, a.length)
		w.add("remi %s, %s, %d", t, t, a.length)
	}
	if a.register == "" && a.at >= 0 {
		return fmt.Sprintf("%d, %s", a.at, t)
	}
	base := w.base(a)
	u := w.fresh()
	w.add("add %s, %s, %s", u, base, t)
	return "0, " + u
}

// kept is the register with what is stored in an array.
func (w *writer) kept(array, token string) string {
	switch {
	case !w.array(array).small || w.on(api.FtChoose3):
		return w.reg(token)
	case !isRegister(token):
		return w.reg(fmt.Sprint(uint8(integer(token))))
	}
	r := w.fresh()
	w.add("andi %s, %s, 255", r, token)
	return r
}

func (w *writer) call(to, name string, args []string) {
	for i, token := range args {
		r := ""
		if token[0] == 'a' {
			r = w.base(w.array(token))
		} else {
			r = w.reg(token)
		}
		w.add("arg %d, %s", i, r)
	}
	w.add("call %d", slices.Index(w.funcs, name))
	if to != "" {
		w.add("result %s", to)
	}
}

func (w *writer) end(words []string) {
	switch {
	case words[0] == "jump":
		w.add("jump %s", words[1][1:])
	case words[0] == "branch" && isRegister(words[1]):
		w.add("zero %s, %s", words[1], words[3][1:])
		w.add("jump %s", words[2][1:])
	case words[0] == "branch" && words[1] == "0":
		w.add("jump %s", words[3][1:])
	case words[0] == "branch":
		w.add("jump %s", words[2][1:])
	case len(words) > 1:
		w.add("return %s", w.reg(words[1]))
	default:
		w.add("%s", words[0])
	}
}
