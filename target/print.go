package target

import (
	"strconv"

	"cupel/api"
)

// Print returns the canonical text.
func Print(i api.Image) (string, api.Errno) {
	if e := Check(i); e != api.OK {
		return "", e
	}
	text := []byte("entry " + strconv.Itoa(i.Entry) + ";\n")
	for _, d := range i.Data {
		text = append(text, "data "+strconv.FormatInt(d, 10)+";\n"...)
	}
	for x := range instructions(i.Code) {
		text = append(text, lineOf(x)...)
	}
	return string(text), api.OK
}

func lineOf(x api.MInstr) string {
	line := wordOf(x.Op)
	l, _ := operandsOf(x.Op)
	for i, o := range l.named() {
		if i > 0 {
			line += ","
		}
		line += " " + textOf(x, o)
	}
	return line + ";\n"
}

func textOf(x api.MInstr, o operand) string {
	imm := strconv.FormatInt(x.Imm, 10)
	switch o {
	case regD:
		return register(x.D)
	case regA:
		return register(x.A)
	case regB:
		return register(x.B)
	case place:
		return imm + "(" + register(x.A) + ")"
	}
	return imm
}

func register(n int) string { return "r" + strconv.Itoa(n) }
