package defined_test

import (
	"sort"
	"strings"
	"testing"

	"cupel/api"
	"cupel/defined"
)

// room is how many visits are left when a program has made that of main and those of its ballast: 1 + 9 * 2208 are 19873.
const room = 127

const (
	unused  = "func none() { } func first(x: int, y: int): int { return x; } func fill(a: int[2]) { a[0] = 3; } func yes(): bool { return true; } "
	ballast = "func main() { big(); big(); big(); big(); big(); big(); big(); big(); big(); "
)

// withBallast makes a program of statements, before which it makes all visits but room, less those that fill says.
func withBallast(snippet string, fill int) string {
	leaf := "func leaf() { " + strings.Repeat("print 1; ", 30) + "} " // 61 visits
	big := "func big() { " + strings.Repeat("leaf(); ", 35) + "} "    // 1 + 35 * (2 + 61), and 2 of each of its calls
	text := leaf + big + unused + ballast + strings.Repeat("print 1; ", fill/2)
	if fill%2 == 1 {
		text += "let odd: int; "
	}
	return text + snippet + " }"
}

// visitsOf returns how many visits statements make: how many others do not fit any more.
func visitsOf(t *testing.T, snippet string) int {
	t.Helper()
	return room + 1 - sort.Search(room+1, func(fill int) bool {
		_, e := defined.Prove(read(t, withBallast(snippet, fill)))
		if e != api.OK && e != api.ErrLong {
			t.Fatalf("%s: error %d", snippet, e)
		}
		return e == api.ErrLong
	})
}

// P5.1: what is a visit, and how many there may be.
func TestVisits(t *testing.T) {
	for _, c := range []struct {
		snippet string
		want    int
	}{
		{"", 0}, {"trap;", 1}, {"return;", 1}, {"let x: int;", 1}, {"let x: int = 1;", 2}, {"let x: int = 1; x = 2;", 4}, {"trap; print 1;", 1},
		{"print 1;", 2}, {"print -1;", 3}, {"print 1 + 2;", 4}, {"print int(1s);", 3}, {"print small(-1);", 4}, {"print 1 < 2;", 4},
		{"print 1 / 0 + 2;", 5}, {"print 2 + 1 / 0;", 6}, {"print 2 + 1 / 0; print 1;", 6},
		{"let a: int[2]; a[0] = 5; print a[1];", 7}, {"let a: int[2]; a[1 / 0] = 5;", 5}, {"let a: int[2]; a[7] = 5;", 4},
		{"print true && false;", 4}, {"print false && true;", 3}, {"print true || false;", 3}, {"print false || true;", 4}, {"print !(true && true);", 5},
		{"if true { print 1; } else { print 2; }", 4}, {"if false { print 1; } else { print 2; print 3; }", 6}, {"if 1 < 2 { }", 4}, {"if !(1 < 2) { }", 5}, {"if !!!true { }", 5},
		{"if 1 < 2 && 2 < 1 { }", 8}, {"if 1 > 2 && 2 < 1 { }", 5}, {"if 1 < 2 || 2 < 1 { }", 5}, {"if 1 > 2 || !(2 < 1) { }", 9}, {"if 1 / 0 < 2 { trap; } else { trap; }", 5},
		{"if yes() { } else { trap; }", 5}, {"if (true && true) == false { }", 6},
		{"none();", 3}, {"print first(5, 6);", 7}, {"print first(5, 1 / 0);", 6}, {"let a: int[2]; fill(a);", 8}, {"leaf();", 63},
		{"while false upto 3 { print 1; }", 2}, {"while true upto 3 { print 1; }", 4}, {"while true upto 1 { break; print 1; }", 3},
		{"let n: int = 0; while n < 1 upto 5 { n = 1; }", 13}, {"let n: int = 0; while true upto 5 { n = n + 1; }", 23},
		{"for i in 0 .. 3 { print i; }", 5}, {"for i in 3 .. 3 { print i; }", 3}, {"for i in 1 / 0 .. 3 { print i; }", 4}, {"for i in 0 .. 3 { for j in 0 .. 3 { print j; } }", 8},
		{"let n: int = 0; for i in 0 .. 3 { n = 1; continue; trap; }", 11},
		{"if true { let y: int = 1; } for i in 0 .. 3 { let y: int = 5; }", 9}, {"for i in 0 .. 3 { let y: int = 5; break; } for i in 0 .. 3 { let y: int = 7; }", 11},
	} {
		if got := visitsOf(t, c.snippet); got != c.want {
			t.Errorf("%s: %d visits, want %d", c.snippet, got, c.want)
		}
	}
}

// P5.1, P5.2, R2: with too many visits there is nothing but ErrLong, wherever the expression stands; ErrNone comes before it.
func TestTooLong(t *testing.T) {
	for fill, want := range map[int]api.Errno{room - 5: api.OK, room - 4: api.ErrLong} {
		p := read(t, withBallast("print 1 / 0 + 2; trap;", fill))
		x, e := defined.Prove(p)
		if e != want || want != api.OK && (x.Defined || len(x.At)+len(x.Traps) > 0) {
			t.Errorf("fill %d: %v, error %d, want %d", fill, x, e, want)
		}
		last := len(p.Funcs[6].Body) - 2
		for _, path := range [][]int{{0, 0, 2}, {6, last, 2, 0}, {6, last, 2, 1}} {
			r, some, e := defined.Values(p, path)
			if e != want || some != (want == api.OK && path[0] == 0) || !some && r != (api.Range{}) {
				t.Errorf("fill %d, values of %v: %v, %v, error %d, want %d", fill, path, r, some, e, want)
			}
		}
		for _, path := range [][]int{nil, {6}, {6, last}, {6, 0, 2}, {6, 999, 2}, {6, last, 2, 0, 0, 0}} {
			if r, some, e := defined.Values(p, path); e != api.ErrNone || some || r != (api.Range{}) {
				t.Errorf("fill %d, values of %v: %v, %v, error %d", fill, path, r, some, e)
			}
		}
	}
}

// P5.4: the analysis ends, however loops and calls are in each other.
func TestEnds(t *testing.T) {
	const deep = api.MaxNest - 4 // of so many statements and expressions consists the innermost one
	for _, loop := range []string{"while n < 9 upto 1000 { ", "for v? in 0 .. n + 9 { ", "while true upto 1 { if n > 5 { n = 0; } ", "for v? in n .. 10 { if v? == 3 { continue; } "} {
		for _, inside := range []string{"n = n + 1;", "n = n - 1; if n > 50 { break; }", "if n == 7 { return; } n = n + n;", "a[n & 3] = a[0] + 1; n = a[1];"} {
			for _, depth := range []int{1, 2, 3, deep} {
				text := "global a: int[4]; func main() { let n: int = 0; "
				for i := range depth {
					text += strings.ReplaceAll(loop, "?", string(rune('a'+i)))
				}
				text += inside + strings.Repeat(" }", depth) + " }"
				_, e := defined.Prove(read(t, text))
				if e != api.OK && e != api.ErrLong || depth < 3 && e != api.OK {
					t.Errorf("%s: error %d", text, e)
				}
			}
		}
	}
}
