package sem_test

import (
	"fmt"
	"testing"

	"cupel/api"
	"cupel/sem"
)

// P3.2: a row for each time at which the statement begins, with the values of the scalars that have one for sure.
func TestTrace(t *testing.T) {
	for _, c := range []struct {
		text, want string
		path       []int
	}{
		{"func main() { print 1; }", "[[]]", []int{0, 0}},
		{"func main() { let x: int = 5; x = 6; print x; }", "[[]]", []int{0, 0}},
		{"func main() { let x: int = 5; x = 6; print x; }", "[[5]]", []int{0, 1}},
		{"func main() { let x: int = 5; x = 6; print x; }", "[[6]]", []int{0, 2}},
		{"func main() { let x: int; x = 6; print x; }", "[[]]", []int{0, 1}},
		{"func main() { let x: int; x = 6; print x; }", "[[6]]", []int{0, 2}},
		{"global g: small = 200s; global a: int[2]; global b: bool = true; func main() { let x: int = -5; let c: small[1]; let y: bool; print 1; }", "[[200 1 -5]]", []int{0, 3}},
		{"global g: small = 200s; func main() { f(3, true); g = g + 100s; f(-4, false); } func f(x: int, y: bool) { print x; }", "[[200 3 1] [44 -4 0]]", []int{1, 0}},
		{"func main() { let z: int = 1; f(3); } func f(x: int) { let y: small = 7s; print x; }", "[[3 7]]", []int{1, 1}},
		{"func main() { for i in 5 .. 8 { print i; } print 9; }", "[[5] [6] [7]]", []int{0, 0, 0, 0}},
		{"func main() { for i in 5 .. 8 { print i; } print 9; }", "[[]]", []int{0, 0}},
		{"func main() { for i in 5 .. 8 { print i; } print 9; }", "[[]]", []int{0, 1}},
		{"func main() { let n: int = 0; while n < 3 upto 9 { n = n + 1; print n; } }", "[[1] [2] [3]]", []int{0, 1, 0, 1}},
		{"func main() { let n: int = 0; while n < 3 upto 9 { n = n + 1; print n; } }", "[[0]]", []int{0, 1}},
		{"func main() { for i in 0 .. 2 { let x: int = i * 10; let y: int = x + 1; trap; } }", "[[0 0 1]]", []int{0, 0, 0, 2}},
		{"func main() { for i in 0 .. 4 { if i % 2 == 0 { print i; } else { print -i; } } }", "[[1] [3]]", []int{0, 0, 0, 0, 1, 0}},
		{"func main() { for i in 0 .. 4 { if i % 2 == 0 { print i; } else { print -i; } } }", "[[0] [2]]", []int{0, 0, 0, 0, 0, 0}},
		{"func main() { if false { print 1; } return; print 2; }", "[]", []int{0, 0, 0, 0}},
		{"func main() { if false { print 1; } return; print 2; }", "[[]]", []int{0, 1}},
		{"func main() { if false { print 1; } return; print 2; }", "[]", []int{0, 2}},
		{"func f() { print 1; } func main() { let x: int = 1; f(); }", "[[]]", []int{0, 0}},
		{"func f() { print 1; } func main() { trap; f(); }", "[]", []int{0, 0}},
		{"func main() { let x: int = 1; print x / 0; }", "[[1]]", []int{0, 1}},
		{"func main() { if true { let x: int = 1; } let x: small = 2s; print x; }", "[[2]]", []int{0, 2}},
		{"func main() { let x: int; if true { x = 4; } else { trap; } print x; }", "[[4]]", []int{0, 2}},
		{"func main() { let x: int; if true { x = 4; } print 5; }", "[[]]", []int{0, 2}},
	} {
		rows, e := sem.Trace(read(t, c.text), enough, c.path)
		if got := fmt.Sprint(rows); got != c.want || e != api.OK {
			t.Errorf("%s\nat %v: %s (error %d), want %s", c.text, c.path, got, e, c.want)
		}
	}
}

// P3.2: at most 200 rows, the first ones.
func TestLongTrace(t *testing.T) {
	for _, c := range []struct{ rounds, rows int }{{199, 199}, {200, 200}, {201, 200}, {3000, 200}} {
		p := read(t, fmt.Sprintf("func main() { for i in 0 .. %d { if i < 0 { } } }", c.rounds))
		rows, e := sem.Trace(p, enough, []int{0, 0, 0, 0})
		if e != api.OK || len(rows) != c.rows {
			t.Errorf("%d rounds: %d rows, error %d", c.rounds, len(rows), e)
		}
		for i, row := range rows {
			if len(row) != 1 || row[0] != int64(i) {
				t.Errorf("%d rounds: row %d is %v", c.rounds, i, row)
			}
		}
	}
}

// P3.2: a statement for which no step is left does not begin.
func TestShortTrace(t *testing.T) {
	p := read(t, "func main() { let x: int = 1; print x; print 2; for i in 0 .. 3 { print 7; } }")
	for steps, want := range map[int]string{0: "[]", 1: "[]", 2: "[]", 3: "[[1]]", 4: "[[1]]", enough: "[[1]]"} {
		if rows, e := sem.Trace(p, steps, []int{0, 1}); fmt.Sprint(rows) != want || e != api.OK {
			t.Errorf("%d steps: %v, error %d, want %s", steps, rows, e, want)
		}
	}
	for steps, want := range map[int]string{9: "[]", 10: "[]", 11: "[[1 0]]", 13: "[[1 0]]", 14: "[[1 0] [1 1]]"} {
		if rows, e := sem.Trace(p, steps, []int{0, 3, 0, 0}); fmt.Sprint(rows) != want || e != api.OK {
			t.Errorf("in the loop, %d steps: %v, error %d, want %s", steps, rows, e, want)
		}
	}
}

// P3.2: the errors, in their order.
func TestTraceErrors(t *testing.T) {
	const text = "func main() { print 1 + 2; if true { trap; } while true upto 2 { } }"
	good, flawed, wrong := read(t, text), read(t, "func main() { print x; }"), withBody(api.Stmt{Kind: 99})
	for _, c := range []struct {
		p     api.Program
		steps int
		path  []int
		want  api.Errno
	}{
		{good, 9, []int{0, 0}, api.OK}, {good, 9, []int{0, 1, 0, 0}, api.OK}, {good, 0, []int{0, 2}, api.OK},
		{good, 9, nil, api.ErrNone}, {good, 9, []int{0}, api.ErrNone}, {good, 9, []int{1}, api.ErrNone}, {good, 9, []int{-1, 0}, api.ErrNone},
		{good, 9, []int{0, 0, 2}, api.ErrNone}, {good, 9, []int{0, 0, 2, 1}, api.ErrNone}, {good, 9, []int{0, 3}, api.ErrNone}, {good, 9, []int{0, 1, 0, 1}, api.ErrNone},
		{good, 9, []int{0, 1, 1, 0}, api.ErrNone}, {good, 9, []int{0, 2, 0, 0}, api.ErrNone}, {good, 9, []int{0, 1, 0}, api.ErrNone}, {good, 9, []int{0, 0, 0, 0}, api.ErrNone},
		{good, -1, []int{0, 0}, api.ErrArg}, {good, -1, []int{7}, api.ErrArg}, {good, enough + 1, []int{0, 0}, api.ErrArg},
		{flawed, 9, []int{0, 0}, api.ErrDown}, {flawed, -1, []int{7}, api.ErrDown}, {wrong, -1, []int{0, 0}, api.ErrArg}, {withBody(make([]api.Stmt, 400)...), -1, nil, api.ErrLong},
	} {
		rows, e := sem.Trace(c.p, c.steps, c.path)
		if e != c.want || e != api.OK && len(rows) != 0 {
			t.Errorf("%d steps, %v: %v, error %d, want %d", c.steps, c.path, rows, e, c.want)
		}
	}
}
