// P1 with its rules R2 to R4 and R6, for passes, pipeline, target, choose and alloc, and with them P13.4, P14.4, P15.4, P16.4, P17.4, P18.4 and P19.6.

package rules

import (
	"reflect"
	"sync"
	"testing"

	"cupel/api"
)

// R2: what fails returns nothing else.
func TestErrorsAlone(t *testing.T) {
	each(t, func(t *testing.T, c call) {
		a := c.args()
		r := reflect.ValueOf(c.ask(a)).Elem()
		nothing := reflect.New(r.Type()).Elem()
		for _, name := range []string{"E", "Place"} { // where it has failed is a result of errors
			if f := nothing.FieldByName(name); f.IsValid() {
				f.Set(r.FieldByName(name))
			}
		}
		if r.FieldByName("E").Int() != int64(api.OK) && !equal(r, nothing) {
			t.Fatalf("%s of %+v: %+v", c.name, a, r)
		}
	})
}

// R3: arguments are not changed, also where their memory goes on behind their lists.
func TestArgumentsStay(t *testing.T) {
	each(t, func(t *testing.T, c call) {
		a := c.args()
		stretch(a)
		c.ask(a)
		if !same(a, c.args()) || hidden(a) > 0 {
			t.Fatalf("%s of %+v: the arguments became %+v", c.name, c.args(), a)
		}
	})
}

// R3: lists of results share no memory, neither with each other, nor with the arguments, nor with those of another call.
func TestListsApart(t *testing.T) {
	each(t, func(t *testing.T, c call) {
		a := c.args()
		if !apart(lists(a, c.ask(a), c.ask(a))) {
			t.Fatalf("%s of %+v: lists share memory", c.name, a)
		}
	})
}

// R3: neither arguments nor results are kept.
func TestNothingKept(t *testing.T) {
	each(t, func(t *testing.T, c call) {
		a, want := c.args(), c.ask(c.args())
		got, other := c.ask(a), c.ask(a)
		for _, v := range lists(a, other) {
			for i := range v.Len() {
				v.Index(i).SetZero()
			}
		}
		if !same(got, want) || !same(c.ask(c.args()), want) {
			t.Fatalf("%s of %+v: the result has changed", c.name, c.args())
		}
	})
}

// R4: empty lists mean the same as nil.
func TestEmptyLists(t *testing.T) {
	each(t, func(t *testing.T, c call) {
		none, empty := c.args(), c.args()
		others := lists(empty)
		for i, v := range lists(none) {
			if v.Len() == 0 {
				v.SetZero()
				others[i].Set(reflect.MakeSlice(v.Type(), 0, 3))
			}
		}
		if !same(c.ask(none), c.ask(empty)) {
			t.Fatalf("%s of %+v: with empty lists it is different", c.name, none)
		}
	})
}

// asked is a call, its arguments, and what it has returned.
type asked struct {
	call
	known, want any
}

// R6: results depend on the arguments alone, also when many are made at once.
func TestAtOnce(t *testing.T) {
	var all []asked
	sources(func(_ string, calls func(t *testing.T, look func(c call))) {
		turn := 0
		calls(t, func(c call) {
			if turn++; turn <= 30 || turn%29 == 0 {
				a := c.args()
				all = append(all, asked{c, a, c.ask(a)})
			}
		})
	})
	var wait sync.WaitGroup
	for n := range 8 {
		wait.Go(func() {
			for i := range all {
				if c := all[(i+n*n)%len(all)]; !same(c.ask(c.known), c.want) {
					t.Errorf("%s of %+v: the result is another one", c.name, c.known)
				}
			}
		})
	}
	wait.Wait()
}
