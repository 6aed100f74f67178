package choose_test

import (
	"regexp"
	"strings"

	"cupel/api"
	"cupel/samples"
)

// modelCheck is the error of virtual code, by the words of the chapter.
func modelCheck(v api.VCode) api.Errno {
	isLong := len(v.Funcs) > 20 || v.Words > 1000 || len(v.Data) > v.Words
	for _, f := range v.Funcs {
		instrs := 0
		for _, list := range f.Blocks {
			instrs += len(list)
		}
		isLong = isLong || len(f.Blocks) > 60 || instrs > 20000 || f.Regs > 4000 || f.Args > 16 || len(f.Locals) > 20
		for _, length := range f.Locals {
			isLong = isLong || length > 16
		}
	}
	if isLong {
		return api.ErrLong
	}
	if v.Main < 0 || v.Main >= len(v.Funcs) || v.Funcs[v.Main].Args != 0 {
		return api.ErrArg
	}
	for i := range v.Funcs {
		if !modelFunc(v, v.Funcs[i]) {
			return api.ErrArg
		}
	}
	for i := range v.Funcs {
		if depth(v, i, 0) > len(v.Funcs) {
			return api.ErrArg
		}
	}
	return api.OK
}

// depth is how many calls in each other a function leads to, if these are not too many.
func depth(v api.VCode, index, above int) int {
	most := above
	for _, list := range v.Funcs[index].Blocks {
		for _, x := range list {
			if x.Op == api.VcCall && most <= len(v.Funcs) {
				most = max(most, depth(v, int(x.Imm), above+1))
			}
		}
	}
	return most
}

// block is what the letters of a block have to be: j for jumps, z for zero, e for other ends.
var block = regexp.MustCompile("^x*(e|z?j)$")

func modelFunc(v api.VCode, f api.VFunc) bool {
	if f.Regs < 0 || f.Args < 0 || len(f.Blocks) == 0 {
		return false
	}
	for _, length := range f.Locals {
		if length < 1 {
			return false
		}
	}
	for _, list := range f.Blocks {
		letters := ""
		for _, x := range list {
			if !modelInstr(v, f, x) {
				return false
			}
			switch x.Op {
			case api.VcJump:
				letters += "j"
			case api.VcZero:
				letters += "z"
			case api.VcReturn, api.VcTrap:
				letters += "e"
			default:
				letters += "x"
			}
		}
		if !block.MatchString(letters) {
			return false
		}
	}
	return true
}

// byOp are the operations by their Ops.
var byOp = operationsByOp()

func operationsByOp() map[int]samples.VirtualOp {
	all := map[int]samples.VirtualOp{}
	for _, o := range samples.VirtualOps() {
		all[o.Op] = o
	}
	return all
}

func modelInstr(v api.VCode, f api.VFunc, x api.VInstr) bool {
	o, known := byOp[x.Op]
	if !known {
		return false
	}
	for field, r := range map[string]int{"D": x.D, "A": x.A, "B": x.B} {
		least, most := -1, -1
		if strings.Contains(o.Fields, field) {
			least, most = 0, f.Regs-1
		}
		if o.Word == "return" && field == "A" {
			least = -1
		}
		if r < least || r > most {
			return false
		}
	}
	low, high := int64(0), int64(0)
	switch o.Word {
	case "set":
		low, high = least, greatest
	case "local":
		high = int64(len(f.Locals)) - 1
	case "param":
		high = int64(f.Args) - 1
	case "arg":
		high = 15
	case "call":
		high = int64(len(v.Funcs)) - 1
	case "zero", "jump":
		high = int64(len(f.Blocks)) - 1
	default:
		if strings.Contains(o.Fields, "I") {
			low, high = -2147483648, 2147483647
		}
	}
	return low <= x.Imm && x.Imm <= high
}
