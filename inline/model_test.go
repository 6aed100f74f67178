package inline_test

import (
	"fmt"
	"regexp"
	"slices"
	"strconv"
	"strings"

	"cupel/api"
	"cupel/samples"
)

// The model changes the canonical text of a module. Whether what arises is within the limits it finds out by reading it.

// modelRun replaces calls until none is left that can be replaced.
func modelRun(m api.Module, k int, x api.Limit) (api.Module, []api.Applied, api.Errno) {
	var list []api.Applied
	small := map[string]samples.Listing{}
	for i, f := range m.Funcs {
		if l := samples.ListingOf(m, i); isSmall(l) {
			small[f.Name] = l
		}
	}
	for len(list) != x.Most {
		made, b, i := modelStep(m, k, x.Faults, small)
		if b < 0 {
			break
		}
		m = made
		list = append(list, api.Applied{Pass: api.PsInline, Rule: 1, Func: k, Block: b, Index: i})
	}
	return m, list, api.OK
}

var calling = regexp.MustCompile(`^(?:(r[0-9]+) = )?call (\w+)\((.*)\);$`)

// modelStep replaces the first call that can be replaced, of one of these small functions, and returns where that is: -1 if there is none.
func modelStep(m api.Module, k int, faults []int, small map[string]samples.Listing) (api.Module, int, int) {
	for b, block := range samples.ListingOf(m, k).Blocks {
		for i, line := range block {
			parts := calling.FindStringSubmatch(line.Text)
			if parts == nil {
				continue
			}
			called, is := small[parts[2]]
			if !is {
				continue
			}
			g := slices.IndexFunc(m.Funcs, func(f api.IFunc) bool { return f.Name == parts[2] })
			d := model{samples.ListingOf(m, k), faults, len(m.Funcs[k].Blocks), m.Funcs[k].Regs, nil}
			d.replace(b, i, parts, m.Funcs[g], called)
			if made, e := d.Module(); e == api.OK {
				return made, b, i
			} else if e != api.ErrLong {
				panic(fmt.Sprint(d.Listing, e))
			}
		}
	}
	return m, -1, -1
}

// isSmall reports whether a function has no phi, and not too many instructions.
func isSmall(g samples.Listing) bool {
	count := 0
	for _, block := range g.Blocks {
		for _, line := range block[:len(block)-1] {
			if slices.Contains(line.Words, "phi") {
				return false
			}
			count++
		}
	}
	return count <= 30
}

// model is a function, and what the first block, the first register and the arrays of a called one become.
type model struct {
	samples.Listing
	faults      []int
	block, reg  int
	arrayByName []string
}

// replace replaces a call of these parts.
func (d *model) replace(b, i int, parts []string, g api.IFunc, called samples.Listing) {
	args, given, _ := strings.Cut(parts[3], "; ")
	before, behind := d.Blocks[b][:i:i], d.Blocks[b][i+1:]
	for j := range g.Regs {
		r, value := d.AddRegister(), "0"
		if j < g.Params {
			value = strings.Split(args, ", ")[j]
		} else if slices.Contains(d.faults, api.FtRegisters) {
			continue
		}
		before = append(before, samples.LineOf(r+" = "+value+";"))
	}
	before = append(before, d.arrays(called.Decls, strings.Split(given, ", "))...)
	d.Blocks[b] = append(before, samples.LineOf(fmt.Sprintf("jump b%d;", d.block)))
	for _, block := range called.Blocks {
		d.Blocks = append(d.Blocks, d.moved(block, parts[1], d.block+len(called.Blocks)))
	}
	d.Blocks = append(d.Blocks, behind)
}

// arrays finds the arrays for those of a called function, and returns the lines that make them zeros.
func (d *model) arrays(decls, given []string) []samples.Line {
	var zeros []samples.Line
	for _, decl := range decls {
		name, kind := "", decl[:5]
		switch at := slices.Index(d.Decls, decl); {
		case kind == "param":
			name, given = given[0], given[1:]
		case kind == "globa" && at >= 0:
			name = fmt.Sprint("a", at)
		default:
			name = d.AddDecl(decl)
		}
		d.arrayByName = append(d.arrayByName, name)
		if kind == "local" && !slices.Contains(d.faults, api.FtZeros) {
			length, _ := strconv.Atoi(decl[len("local["):strings.Index(decl, "]")])
			for e := range length {
				zeros = append(zeros, samples.LineOf(fmt.Sprintf("store %s[%d] = 0;", name, e)))
			}
		}
	}
	return zeros
}

var numbered = regexp.MustCompile(`\b[abr][0-9]+\b`)

// moved returns the lines of a block of a called function, as they are where the call was.
func (d *model) moved(block []samples.Line, to string, behind int) []samples.Line {
	var lines []samples.Line
	for _, line := range block {
		text := numbered.ReplaceAllStringFunc(line.Text, func(name string) string {
			n, _ := strconv.Atoi(name[1:])
			switch name[0] {
			case 'a':
				return d.arrayByName[n]
			case 'b':
				return fmt.Sprint("b", d.block+n)
			}
			return fmt.Sprint("r", d.reg+n)
		})
		if line.Words[0] == "return" {
			if to != "" {
				lines = append(lines, samples.LineOf(to+" = "+strings.TrimPrefix(text, "return ")))
			}
			text = fmt.Sprintf("jump b%d;", behind)
		}
		lines = append(lines, samples.LineOf(text))
	}
	return lines
}
