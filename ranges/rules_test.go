package ranges_test

import (
	"fmt"
	"math"
	"math/rand/v2"
	"sync"
	"testing"

	"cupel/api"
	"cupel/ranges"
)

// answers is what all functions answer, in one text.
func answers(op, kind int, a, b api.Range) string {
	all, e := ranges.Full(kind)
	join, f := ranges.Join(a, b)
	meet, some, g := ranges.Meet(a, b)
	small, h := ranges.ToSmall(a)
	text := fmt.Sprint(ranges.Check(kind, a), all, e, join, f, meet, some, g, small, h)
	r, e := ranges.Unary(op, kind, a)
	x, f := ranges.Binary(op, kind, a, b)
	text += fmt.Sprint(r, e, x, f)
	for _, truth := range []bool{true, false} {
		v, w, possible, e := ranges.Assume(op, kind, a, b, truth)
		text += fmt.Sprint(v, w, possible, e)
	}
	return text
}

// P1, R1 and R2: numbers and ranges of all sorts: what is answered is a range of its kind, or with an error nothing.
func TestAllArguments(t *testing.T) {
	dice := rand.New(rand.NewPCG(4, 8))
	edges := []int64{least, least + 1, -1 << 32, -256, -64, -1, 0, 1, 2, 7, 8, 63, 64, 255, 256, 1 << 32, most - 1, most}
	edge := func() int64 { return edges[dice.IntN(len(edges))] }
	for range 60000 {
		op, kind := dice.IntN(23)-2, dice.IntN(7)-1
		if dice.IntN(20) == 0 {
			op = int(edge())
		}
		if dice.IntN(20) == 0 {
			kind = int(edge())
		}
		a, b := of(edge(), edge()), of(edge(), edge())
		result := kind
		if op >= api.BiEq {
			result = api.TyBool
		}
		if r, e := ranges.Unary(op, kind, a); !answered(kind, r, e, isUnary(op, kind) && isRange(kind, a)) {
			t.Fatalf("Unary(%d, %d, %v): %v, %d", op, kind, a, r, e)
		}
		both := isRange(kind, a) && isRange(kind, b)
		x, e := ranges.Binary(op, kind, a, b)
		if x.Some && !answered(result, x.R, e, both && isBinary(op, kind)) || !x.Some && x.R != nothing || e != api.OK && x != none {
			t.Fatalf("Binary(%d, %d, %v, %v): %v, %d", op, kind, a, b, x, e)
		}
		v, w, possible, e := ranges.Assume(op, kind, a, b, dice.IntN(2) == 0)
		valid := both && isComparison(op, kind)
		if possible && !(answered(kind, v, e, valid) && answered(kind, w, e, valid) && within(v, a) && within(w, b)) || !possible && (v != nothing || w != nothing) {
			t.Fatalf("Assume(%d, %d, %v, %v): %v, %v, %v, %d", op, kind, a, b, v, w, possible, e)
		}
	}
}

// answered reports whether a result is a range of a kind if the arguments are valid, and otherwise ErrArg and nothing.
func answered(kind int, r api.Range, e api.Errno, valid bool) bool {
	if !valid {
		return r == nothing && e == api.ErrArg
	}
	return isRange(kind, r) && e == api.OK
}

// P1, R6: answers depend on the arguments alone, whatever was asked before, also when many ask at once.
func TestAtOnce(t *testing.T) {
	type question struct {
		op, kind int
		a, b     api.Range
	}
	var questions []question
	var want []string
	for op := range 20 {
		for kind := range 5 {
			q := question{op, kind, of(int64(kind%2), 1), of(0, int64(op%2))}
			questions, want = append(questions, q), append(want, answers(q.op, q.kind, q.a, q.b))
		}
	}
	questions = append(questions, question{math.MinInt, math.MaxInt, of(1, 0), of(least, most)})
	want = append(want, answers(math.MinInt, math.MaxInt, of(1, 0), of(least, most)))
	var wait sync.WaitGroup
	for n := range 8 {
		wait.Go(func() {
			for i := range questions {
				i = (i*(2*n+1) + n) % len(questions)
				q := questions[i]
				if got := answers(q.op, q.kind, q.a, q.b); got != want[i] {
					t.Errorf("%v: %s, want %s", q, got, want[i])
				}
			}
		})
	}
	wait.Wait()
}
