package samples

import (
	"strconv"
	"strings"

	"cupel/api"
	"cupel/ir"
)

// Listing is the canonical text of a module, in which models of passes change the lines of one function.
type Listing struct {
	head   string // up to the first block
	Decls  []string
	Blocks [][]Line // instructions, and the end behind them
	tail   string   // behind the last one
}

// Line is that of an instruction or an end, and its words without signs.
type Line struct {
	Text  string
	Words []string
}

// ListingOf returns that of a valid module for one of its functions.
func ListingOf(m api.Module, k int) Listing {
	funcs := strings.SplitAfter(Text(m), "}\n")
	blocks := strings.Split(funcs[k], "\n\tb")
	l := Listing{
		head:  strings.Join(funcs[:k], "") + blocks[0],
		Decls: strings.Split(blocks[0], "\n\t")[1:],
		tail:  "}\n" + strings.Join(funcs[k+1:], ""),
	}
	for _, part := range blocks[1:] {
		var block []Line
		for _, s := range strings.Split(strings.TrimSuffix(part, "\n}\n"), "\n\t\t")[1:] {
			block = append(block, LineOf(s))
		}
		l.Blocks = append(l.Blocks, block)
	}
	return l
}

// LineOf returns the line of a text.
func LineOf(text string) Line {
	return Line{text, strings.FieldsFunc(text, func(r rune) bool { return strings.ContainsRune(" ,:;()[]=", r) })}
}

// AddRegister gives the function one more register, and returns its name.
func (l *Listing) AddRegister() string {
	i := strings.LastIndex(l.head, " regs ") + len(" regs ")
	count, behind, _ := strings.Cut(l.head[i:], " ")
	l.head = l.head[:i] + strconv.Itoa(number(count, 0)+1) + " " + behind
	return "r" + count
}

// AddDecl gives the function one more array, and returns its name.
func (l *Listing) AddDecl(decl string) string {
	l.Decls = append(l.Decls, decl)
	l.head += "\n\t" + decl
	return "a" + strconv.Itoa(len(l.Decls)-1)
}

// Module returns the module of a listing.
func (l Listing) Module() (api.Module, api.Errno) {
	var s strings.Builder
	s.WriteString(l.head)
	for b, block := range l.Blocks {
		s.WriteString("\n\tb" + strconv.Itoa(b) + ":")
		for _, line := range block {
			s.WriteString("\n\t\t" + line.Text)
		}
	}
	m, _, e := ir.Parse(s.String() + "\n" + l.tail)
	return m, e
}
