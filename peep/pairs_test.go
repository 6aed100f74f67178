package peep_test

import (
	"fmt"
	"strings"
	"testing"

	"cupel/samples"
)

// forms are those of two operations, the second one of the result of the first one, with constants on either side.
var forms = []string{
	"r%d = %s r0, %s; r%d = %s r%d, %s; ",
	"r%d = %s r0, %s; r%d = %s %[7]s, r%[6]d; ",
	"r%d = %s %[3]s, r0; r%[4]d = %s r%d, %s; ",
	"r%d = %s %[3]s, r0; r%[4]d = %s %[7]s, r%[6]d; ",
}

// pairs returns the head and the body of a function with two operations for all pairs of constants, but for divisions by 0.
func pairs(form, first, second string) (head, body string) {
	constants := []string{"0", "1", "-1", "2", "3", "63", "64", least, greatest}
	var s strings.Builder
	s.WriteString("b0: ")
	regs := 1
	divides := func(word, c string) bool { return c == "0" && (word == "div" || word == "rem") }
	for _, c := range constants {
		for _, d := range constants {
			if divides(first, c) || divides(second, d) {
				continue
			}
			fmt.Fprintf(&s, form+"print r%[4]d; ", regs, first, c, regs+1, second, regs, d)
			regs += 2
		}
	}
	return fmt.Sprintf("1 regs %d", regs), s.String() + "return;"
}

// P16.1, P16.2: all pairs of operations by constants.
func TestPairs(t *testing.T) {
	for _, first := range words {
		for _, second := range words {
			for _, form := range forms {
				head, body := pairs(form, first, second)
				m := samples.Of(t, head, body)
				made, _ := pass.ExpectModel(t, m, 0, samples.All())
				pass.ExpectKept(t, m, made)
				pass.ExpectModel(t, m, 0, samples.All(pass.Faults...))
			}
		}
	}
}
