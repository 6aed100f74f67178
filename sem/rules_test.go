package sem_test

import (
	"fmt"
	"math"
	"reflect"
	"slices"
	"sync"
	"testing"

	"cupel/api"
	"cupel/sem"
	"cupel/syntax"
)

const typical = "global g: int = 3; global a: int[2]; func f(b: int[2], x: int): int { b[x] = g; return b[x] * 2; } func main() { let n: int = 0; for i in 0 .. 2 { if i == 1 { n = f(a, i); } else { print i; } } print n; g = n; let c: int[2]; print c[n]; }"

// answers is what Run and Trace answer, in one text.
func answers(p api.Program, steps int, path []int) string {
	b, used, place, e := sem.Run(p, steps)
	rows, f := sem.Trace(p, steps, path)
	return fmt.Sprint(b, used, place, e, rows, f)
}

// P1, R1 and R2: the error of syntax.Check comes first, also where programs contain themselves.
func TestWrongPrograms(t *testing.T) {
	for _, p := range wrongPrograms() {
		for _, steps := range []int{-1, 0, 5, enough + 1} {
			want := fmt.Sprint(api.Behaviour{}, 0, []int(nil), syntax.Check(p), [][]int64(nil), syntax.Check(p))
			if got := answers(p, steps, []int{0, 0}); got != want {
				t.Errorf("%d steps: %s, want %s", steps, got, want)
			}
		}
	}
}

// P1, R1: paths of all sorts.
func TestAllPaths(t *testing.T) {
	p := read(t, typical)
	steps := []int{math.MinInt, -1, 0, 1, 2, 3, 4, 8, 400, math.MaxInt}
	paths := [][]int{nil, make([]int, 100000), slices.Repeat([]int{1}, 100000)}
	for _, a := range steps {
		paths = append(paths, []int{a})
		for _, b := range steps {
			paths = append(paths, []int{a, b})
			for _, c := range steps {
				paths = append(paths, []int{a, b, c}, []int{1, 1, a, b, c}, []int{1, 1, 0, 0, a, b, c})
			}
		}
	}
	for _, path := range paths {
		rows, e := sem.Trace(p, enough, path)
		n, f := syntax.At(p, path)
		if isStmt := f == api.OK && n.Kind == api.NdStmt; isStmt != (e == api.OK) || !isStmt && (e != api.ErrNone || len(rows) != 0) {
			t.Errorf("Trace %v: %v, %d", path, rows, e)
		}
	}
}

// P1, R3: arguments are not changed.
func TestArgumentsStay(t *testing.T) {
	p, path := read(t, typical), []int{1, 1}
	long := append(path, 7)[:2]
	answers(p, enough, long)
	if !reflect.DeepEqual(p, read(t, typical)) || !slices.Equal(long[:3], []int{1, 1, 7}) {
		t.Error("an argument is changed")
	}
	a, b := api.Behaviour{Out: []int64{1, 2, 3}[:2], End: api.EnSteps}, api.Behaviour{Out: []int64{1, 2, 3}, End: api.EnDone}
	if !sem.Agree(a, b) || !sem.Agree(b, a) || !slices.Equal(a.Out[:3], b.Out) || !slices.Equal(b.Out, []int64{1, 2, 3}) {
		t.Errorf("%v, %v", a, b)
	}
}

// P1, R3: results have memory of their own, also behind their ends.
func TestResultsApart(t *testing.T) {
	p, path := read(t, typical), []int{1, 1, 0, 0}
	want := answers(p, enough, path)
	b, _, place, _ := sem.Run(p, enough)
	rows, _ := sem.Trace(p, enough, path)
	shown := fmt.Sprint(b, place)
	for i, row := range rows {
		others := fmt.Sprint(rows[:i], rows[i+1:])
		for j := range row[:cap(row)] {
			row[:cap(row)][j] = -7
		}
		if got := fmt.Sprint(rows[:i], rows[i+1:]); got != others {
			t.Errorf("row %d: %s became %s", i, others, got)
		}
	}
	if got := fmt.Sprint(b, place); got != shown {
		t.Errorf("%s became %s", shown, got)
	}
	for i := range place[:cap(place)] {
		place[:cap(place)][i] = -7
	}
	for i := range b.Out[:cap(b.Out)] {
		b.Out[:cap(b.Out)][i] = -7
	}
	if got := answers(p, enough, path); got != want || !slices.Equal(path, []int{1, 1, 0, 0}) {
		t.Errorf("%s became %s", want, got)
	}
}

// P1, R4: lists that are empty mean the same as nil.
func TestEmptyLists(t *testing.T) {
	for _, text := range []string{typical, "func main() { }", "func main() { while true upto 2 { } if true { } return; }"} {
		p, q := read(t, text), read(t, text)
		q.Globals = append([]api.Global{}, q.Globals...)
		for i := range q.Funcs {
			f := &q.Funcs[i]
			f.Params, f.Body = append([]api.Param{}, f.Params...), withEmptyLists(f.Body)
		}
		for _, path := range append(statementsOf(t, p), nil, []int{}) {
			if got, want := answers(q, enough, path), answers(p, enough, path); got != want {
				t.Errorf("%s\nwith empty lists: %s, want %s", text, got, want)
			}
		}
	}
}

func withEmptyLists(list []api.Stmt) []api.Stmt {
	out := []api.Stmt{}
	for _, s := range list {
		s.Exprs, s.Body, s.Else = append([]api.Expr{}, s.Exprs...), withEmptyLists(s.Body), withEmptyLists(s.Else)
		for i, x := range s.Exprs {
			s.Exprs[i].Args = append([]api.Expr{}, x.Args...)
		}
		out = append(out, s)
	}
	return out
}

// P1, R6: answers depend on the arguments alone, also when many ask at once.
func TestAtOnce(t *testing.T) {
	texts := []string{typical, "global g: int; func main() { g = g + 1; print g; }", "func main() { print x; }"}
	var ps []api.Program
	var want []string
	for _, text := range texts {
		p := read(t, text)
		ps, want = append(ps, p), append(want, answers(p, 50, []int{1, 2}))
	}
	var wait sync.WaitGroup
	for range 8 {
		wait.Go(func() {
			for i := range 60 {
				if got := answers(ps[i%3], 50, []int{1, 2}); got != want[i%3] {
					t.Errorf("%s, want %s", got, want[i%3])
				}
			}
		})
	}
	wait.Wait()
}
