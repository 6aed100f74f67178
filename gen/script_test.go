package gen_test

import (
	"fmt"
	"strings"
	"testing"

	"cupel/api"
	"cupel/gen"
	"cupel/syntax"
)

// script is what is to be drawn: "2/5" is the number 2 of draw(5), "2-4/5" one from 2 to 4; for such numbers the program has a ?, as far as it has any.
type script []struct{ low, high, of int }

func scriptOf(t *testing.T, words string) script {
	t.Helper()
	list := make(script, len(strings.Fields(words)))
	for i, word := range strings.Fields(words) {
		x := &list[i]
		if n, _ := fmt.Sscanf(word, "%d-%d/%d", &x.low, &x.high, &x.of); n == 3 {
			continue
		}
		if n, _ := fmt.Sscanf(word, "%d/%d", &x.low, &x.of); n != 2 {
			t.Fatalf("%q", word)
		}
		x.high = x.low
	}
	return list
}

// isDrawn reports whether all of the script is drawn from a state.
func (list script) isDrawn(state uint64) bool {
	for _, x := range list {
		state = gen.Next(state)
		if n := gen.Draw(state, x.of); n < x.low || n > x.high {
			return false
		}
	}
	return true
}

// filled is a text with the numbers that are drawn from a state.
func (list script) filled(text string, state uint64) string {
	for _, x := range list {
		if state = gen.Next(state); x.low < x.high {
			text = strings.Replace(text, "?", fmt.Sprint(gen.Draw(state, x.of)), 1)
		}
	}
	return text
}

// seed is the least state from which the script is drawn.
func (list script) seed() uint64 {
	state := uint64(0)
	for !list.isDrawn(state) {
		state++
	}
	return state
}

// scripts are programs that are made of scripts.
type scripts []struct{ words, want string }

func (list scripts) check(t *testing.T, x api.Plan) {
	t.Helper()
	for _, c := range list {
		list := scriptOf(t, c.words)
		x.Seed = list.seed()
		want := list.filled(c.want, x.Seed)
		p, e := gen.Generate(x)
		if e != api.OK || !syntax.Same(p, read(t, want)) {
			t.Errorf("%v (%s): error %d\n%s\nwant\n%s", x, c.words, e, text(p), want)
		}
	}
}

// P6.2: prints, literals and lets.
func TestScriptsOfLiterals(t *testing.T) {
	scripts{
		{"0/4 6/13 3/5 77/256", "func main() { print 77s; }"},
		{"0/4 7/13 4/5 1/2", "func main() { print true; }"},
		{"0/4 6/13 4/5 0/2", "func main() { print false; }"},
		{"0/4 6/13 0/5 5/9 1/4", "func main() { print 10; }"},
		{"0/4 6/13 1/5 8/9 3/4", "func main() { print 1000; }"},
		{"0/4 7/13 2/5 6/9 0/4", "func main() { print -64; }"},
		{"0/4 7/13 2/5 0/9 0/4", "func main() { print -0; }"},
		{"0/4 0/13 2/5 7/9 0/4", "func main() { let v0: int = -255; }"},
		{"0/4 1/13 3/5 0/256", "func main() { let v0: small = 0s; }"},
		{"0/4 1/13 4/5 1/2", "func main() { let v0: bool = true; }"},
		{"0/4 2/13 2/3", "func main() { let a0: int[4]; }"},
	}.check(t, api.Plan{Stmts: 1})
}

// P6.2: globals, and what is visible of them.
func TestScriptsOfGlobals(t *testing.T) {
	scripts{
		{"1/4 0/6 42/100 6/13 2/5 0/2 0/1", "global g0: int = 42; func main() { print g0; }"},
		{"1/4 1/6 0/100 6/13 2/5 1/2 3/9 2/4", "global g0: int; func main() { print 3; }"},
		{"1/4 2/6 200/256 2/13 0/3", "global g0: small = 200; func main() { let a0: int[2]; }"},
		{"1/4 3/6 1/2 6/13 4/5 0/2 0/1", "global g0: bool = true; func main() { print g0; }"},
		{"2/4 4/6 5/6 5/6 0/6 2/13 1/3", "global g0: int[6]; global g1: small[1]; func main() { let a0: int[3]; }"},
		{"3/4 3/6 0/2 3/6 1/2 3/6 0/2 6/13 4/5 0/2 2/3", "global g0: bool; global g1: bool = true; global g2: bool; func main() { print g2; }"},
		{"2/4 3/6 0/2 4/6 0/6 6/13 4/5 0/2 0/1", "global g0: bool; global g1: int[1]; func main() { print g0; }"},
		{"1/4 3/6 0/2 6/13 0/5 1/9 1/4", "global g0: bool; func main() { print 1; }"},
	}.check(t, api.Plan{Stmts: 1})
}

// P6.2: assignments, and prints in place of them.
func TestScriptsOfAssignments(t *testing.T) {
	scripts{
		{"1/4 0/6 1/100 3/13 0/1 1/2 5/9 1/4", "global g0: int = 1; func main() { g0 = 10; }"},
		{"2/4 4/6 0/6 3/6 0/2 4/13 0/1 0/2 0/1", "global g0: int[1]; global g1: bool; func main() { g1 = g1; }"},
		{"2/4 3/6 0/2 3/6 0/2 4/13 1/2 0/2 0/2", "global g0: bool; global g1: bool; func main() { g1 = g0; }"},
		{"0/4 3/13 0/5 5/9 1/4", "func main() { print 10; }"},
		{"1/4 4/6 0/6 4/13 4/5 1/2", "global g0: int[1]; func main() { print true; }"},
		{"1/4 5/6 2/6 5/13 0/1 0/2 1/3 33/256", "global g0: small[3]; func main() { g0[1] = 33s; }"},
		{"1/4 4/6 2/6 5/13 0/1 1/2 0/4 8/9 1/4 1/9 0/4", "global g0: int[3]; func main() { g0[1000] = -1; }"},
		{"0/4 5/13 4/5 0/2", "func main() { print false; }"},
		{"1/4 3/6 0/2 5/13 4/5 1/2 0/2", "global g0: bool; func main() { print false; }"},
	}.check(t, api.Plan{Stmts: 1})
}

// P6.2: statements with blocks: their rooms, their loops, and how deep they may be.
func TestScriptsOfBlocks(t *testing.T) {
	scripts{
		{"0/4 8/13 0/2 1/3 0/2", "func main() { if false { } }"},
		{"0/4 8/13 0/2 2/3 1/2 2/3", "func main() { if false { } else { } }"},
		{"0/4 9/13 2/3 4/5 0/3", "func main() { for i0 in 2 .. 6 { } }"},
		{"0/4 10/13 1/2 4/5 0/3", "func main() { while true upto 5 { } }"},
		{"0/4 12/13 4/5 0/2", "func main() { print false; }"},
	}.check(t, api.Plan{Stmts: 1})
	scripts{
		{"0/4 8/13 1/2 2/3 2/13 0/3 0/2", "func main() { if true { let a0: int[2]; } }"},
		{"0/4 9/13 1/3 1/5 0/3 6/13 0/5 0/2 0/1", "func main() { for i0 in 1 .. 2 { print i0; } }"},
		{"0/4 9/13 0/3 0/5 0/3 3/13 4/5 1/2", "func main() { for i0 in 0 .. 0 { print true; } }"},
		{"0/4 10/13 1/2 0/5 0/3 12/13 0/2 0/2", "func main() { while true upto 1 { if false { break; } } }"},
		{"0/4 9/13 0/3 0/5 0/3 12/13 0/2 1/2", "func main() { for i0 in 0 .. 0 { if false { continue; } } }"},
		{"0/4 8/13 1/2 0/3 12/13 4/5 0/2 0/2", "func main() { if true { print false; } }"},
	}.check(t, api.Plan{Stmts: 2})
	scripts{
		{"0/4 8/13 1/2 0/3 2/13 0/3 1/2 0/3 2/13 1/3", "func main() { if true { let a0: int[2]; } else { let a1: int[3]; } }"},
		{"0/4 8/13 1/2 0/3 2/13 0/3 0/2 2/13 1/3", "func main() { if true { let a0: int[2]; } let a1: int[3]; }"},
		{"0/4 8/13 1/2 2/3 8/13 1/2 2/3 8/13 4/5 1/2 0/2 0/2", "func main() { if true { if true { print true; } } }"},
		{"0/4 10/13 1/2 0/5 0/3 2/13 0/3 12/13 4/5 0/2", "func main() { while true upto 1 { let a0: int[2]; } print false; }"},
		{"0/4 9/13 0/3 0/5 0/3 2/13 0/3 2/13 1/3", "func main() { for i0 in 0 .. 0 { let a1: int[2]; } let a2: int[3]; }"},
	}.check(t, api.Plan{Stmts: 3})
}

// P6.2: functions, their parameters and results, and calls that are statements.
func TestScriptsOfFunctions(t *testing.T) {
	scripts{
		{"0/4 0/3 1/4 2/13 0/3 3/9 0/4 2/13 1/3", "func f0(): int { let a0: int[2]; return -3; } func main() { let a0: int[3]; }"},
		{"0/4 0/3 3/4 2/13 0/3 9/256 2/13 1/3", "func f0(): small { let a0: int[2]; return 9s; } func main() { let a0: int[3]; }"},
		{"0/4 1/3 4/5 1/3 0/4 2/13 0/3 11/13 0/1 4/5 1/2", "func f0(p0: int[3]) { let a0: int[2]; } func main() { print true; }"},
		{"0/4 1/3 3/5 0/4 2/13 0/3 11/13 0/1 1/2", "func f0(p0: bool) { let a0: int[2]; } func main() { f0(true); }"},
		{"0/4 2/3 2/5 0/5 0/4 2/13 0/3 2/13 1/3", "func f0(p0: small, p1: int) { let a0: int[2]; } func main() { let a0: int[3]; }"},
		{"0/4 0/3 2/4 0/13 0/5 1/9 1/4 0/2 0/1 11/13 0/1", "func f0(): int { let v0: int = 1; return v0; } func main() { f0(); }"},
		{"0/4 0/3 0/4 11/13 4/5 0/2 11/13 0/1", "func f0() { print false; } func main() { f0(); }"},
		{"0/4 0/3 0/4 8/13 0/2 2/3 1/2 2/3 11/13 0/1", "func f0() { if false { } else { } } func main() { f0(); }"},
	}.check(t, api.Plan{Funcs: 1, Stmts: 1})
	scripts{
		{"0/4 0/3 0/4 11/13 4/5 0/2 0/3 0/4 11/13 0/1 11/13 1/2", "func f0() { print false; } func f1() { f0(); } func main() { f1(); }"},
	}.check(t, api.Plan{Funcs: 2, Stmts: 5})
}

// P6.2: expressions with parts.
func TestScriptsOfExpressions(t *testing.T) {
	scripts{
		{"0/4 6/13 4/5 0/4 1/2", "func main() { print true; }"},
		{"0/4 6/13 4/5 1/4 2/4 0/2 1/2 0/2", "func main() { print true && false; }"},
		{"0/4 6/13 4/5 2/4 2/4 1/2 0/2 1/2", "func main() { print false || true; }"},
		{"0/4 6/13 4/5 3/4 3/4 1/2", "func main() { print !true; }"},
		{"0/4 6/13 0/5 1/4 5/8 1/2 1/9 1/4", "func main() { print ~1; }"},
		{"0/4 6/13 0/5 1/4 5/8 0/2 1/9 0/4", "func main() { print --1; }"},
		{"0/4 6/13 0/5 1/4 6/8 1/2 1/2", "func main() { print int(true); }"},
		{"0/4 6/13 0/5 1/4 6/8 0/2 9/256", "func main() { print int(9s); }"},
		{"0/4 6/13 0/5 1/4 4/8 1/9 1/4", "func main() { print 1; }"},
		{"0/4 6/13 0/5 1/4 7/8 2/9 1/4", "func main() { print 2; }"},
		{"0/4 6/13 3/5 1/4 4/5 2/9 0/4", "func main() { print small(-2); }"},
		{"0/4 6/13 3/5 1/4 3/5 5/256", "func main() { print ~5s; }"},
		{"1/4 4/6 1/6 6/13 0/5 1/4 4/8 0/1 1/9 1/4", "global g0: int[2]; func main() { print g0[1]; }"},
		{"1/4 5/6 1/6 6/13 0/5 1/4 4/8 1/9 1/4", "global g0: small[2]; func main() { print 1; }"},
	}.check(t, api.Plan{Stmts: 1, Depth: 1})
	scripts{
		{"0/4 0/3 1-2/4 2/13 0/3 0/4 3/9 1-3/4 6-7/13 0-2/5 1-3/4 7/8 0/1", "func f0(): int { let a0: int[2]; return 3; } func main() { print f0(); }"},
	}.check(t, api.Plan{Funcs: 1, Stmts: 1, Depth: 1})
}

// P6.2: the operators, by the numbers that are drawn.
func TestScriptsOfOperators(t *testing.T) {
	x := api.Plan{Stmts: 1, Depth: 1}
	for i, sign := range strings.Fields("* / % + - << >> & ^ |") {
		high := 7 // so that no guard is needed
		if sign != "<<" && sign != ">>" {
			high = 255
		}
		scripts{
			{fmt.Sprintf("1/4 0/6 1-63/100 6/13 2/5 2/4 %d/8 %d/10 0/2 0/1 0/2 0/1", i%4, i), "global g0: int = ?; func main() { print g0 " + sign + " g0; }"},
			{fmt.Sprintf("1/4 2/6 1-%d/256 6/13 3/5 1/4 %d/5 %d/10 0/2 0/1 0/2 0/1", high, i%3, i), "global g0: small = ?s; func main() { print g0 " + sign + " g0; }"},
		}.check(t, x)
	}
	for i, sign := range strings.Fields("== != < <= > >=") {
		scripts{
			{fmt.Sprintf("1/4 0/6 1-99/100 6/13 4/5 2/4 0/4 %d/6 0/2 0/1 0/2 0/1", i), "global g0: int = ?; func main() { print g0 " + sign + " g0; }"},
			{fmt.Sprintf("1/4 2/6 1-255/256 6/13 4/5 3/4 1/4 %d/6 0/2 0/1 0/2 0/1", i), "global g0: small = ?s; func main() { print g0 " + sign + " g0; }"},
		}.check(t, x)
	}
}
