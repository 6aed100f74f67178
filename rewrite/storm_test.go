package rewrite_test

import (
	"math"
	"math/big"
	"reflect"
	"slices"
	"testing"

	"cupel/api"
	"cupel/gen"
	"cupel/rewrite"
	"cupel/syntax"
)

// stormed does what the chapter says, by Sites and Apply; skipped is how often a rule had no site.
func stormed(t *testing.T, p api.Program, state uint64, n int) (q api.Program, list []api.Mutation, skipped int) {
	t.Helper()
	for range n {
		state = gen.Next(state)
		rule := gen.Draw(state, 19)
		sites, _ := rewrite.Sites(p, rule)
		if len(sites) == 0 {
			skipped++
			continue
		}
		state = gen.Next(state)
		x := api.Mutation{Rule: rule, At: sites[gen.Draw(state, len(sites))], Seed: state}
		var e api.Errno
		if p, e = rewrite.Apply(p, x); e != api.OK {
			t.Fatalf("%v: error %d", x, e)
		}
		list = append(list, x)
	}
	return p, list, skipped
}

// sameMutations reports whether two lists are equal; paths may be nil or empty.
func sameMutations(a, b []api.Mutation) bool {
	return slices.EqualFunc(a, b, func(x, y api.Mutation) bool {
		return x.Rule == y.Rule && x.Seed == y.Seed && slices.Equal(x.At, y.At)
	})
}

// P7.3: storms of many programs, seeds and lengths; all rules are applied, and some have no sites.
func TestStorm(t *testing.T) {
	var applied [ruleCount]int
	skips, seed := 0, uint64(0)
	look := func(p api.Program) {
		seed = gen.Next(seed)
		n := gen.Draw(seed, 51)
		if n%3 > 0 {
			n %= 10
		}
		want, list, skipped := stormed(t, p, seed, n)
		q, got, e := rewrite.Storm(p, seed, n)
		if e != api.OK || !syntax.Same(q, want) || !sameMutations(got, list) {
			t.Fatalf("%s\nseed %d, %d times: error %d, %v\n%s\nwant %v\n%s", text(p), seed, n, e, got, text(q), list, text(want))
		}
		skips += skipped
		for _, x := range got {
			applied[x.Rule]++
		}
	}
	programs(t, 50, look)
	generated(30, look)
	if slices.Min(applied[:]) < 1 || skips < 50 {
		t.Errorf("applied: %v, not applied: %d", applied, skips)
	}
}

// P7.3: the numbers of a storm of one rewrite, drawn by hand.
func TestStormByHand(t *testing.T) {
	draw := func(state *big.Int, n int64) int {
		mask := new(big.Int).SetUint64(math.MaxUint64)
		z := new(big.Int).Set(state)
		for _, x := range []struct {
			shift  uint
			factor uint64
		}{{30, 13787848793156543929}, {27, 10723151780598845931}} {
			z.Xor(z, new(big.Int).Rsh(z, x.shift))
			z.And(z.Mul(z, new(big.Int).SetUint64(x.factor)), mask)
		}
		z.Xor(z, new(big.Int).Rsh(z, 31))
		return int(z.Mod(z, big.NewInt(n)).Int64())
	}
	p := read(t, various)
	applied := 0
	for seed := range uint64(60) {
		first := seed + 11400714819323198485
		second := first + 11400714819323198485
		rule := draw(new(big.Int).SetUint64(first), 19)
		sites, _ := rewrite.Sites(p, rule)
		q, list, e := rewrite.Storm(p, seed, 1)
		if len(sites) == 0 {
			if !syntax.Same(p, q) || len(list) > 0 || e != api.OK {
				t.Errorf("seed %d: error %d, %v", seed, e, list)
			}
			continue
		}
		want := api.Mutation{Rule: rule, At: sites[draw(new(big.Int).SetUint64(second), int64(len(sites)))], Seed: second}
		result, _ := rewrite.Apply(p, want)
		if e != api.OK || !reflect.DeepEqual(list, []api.Mutation{want}) || !syntax.Same(q, result) {
			t.Errorf("seed %d: error %d, %v, want %v\n%s", seed, e, list, want, text(q))
		}
		applied++
	}
	if applied < 30 {
		t.Errorf("applied %d times", applied)
	}
}

// P7.3: how often a storm rewrites has its bounds; with ErrArg there is nothing.
func TestStormBounds(t *testing.T) {
	p := read(t, various)
	for _, n := range []int{math.MinInt, -50, -2, -1, 0, 1, 2, 49, 50, 51, 52, 100, math.MaxInt} {
		q, list, e := rewrite.Storm(p, 11, n)
		if valid := 0 <= n && n <= 50; valid != (e == api.OK) || !valid && (e != api.ErrArg || len(list) > 0) || valid == isNothing(q) {
			t.Errorf("%d times: error %d, %v\n%s", n, e, list, text(q))
		}
		if len(list) > max(n, 0) || n == 0 && !syntax.Same(p, q) {
			t.Errorf("%d times: %v\n%s", n, list, text(q))
		}
	}
}

// P7.3: a longer storm begins as a shorter one.
func TestStormBegins(t *testing.T) {
	p := read(t, various)
	for seed := range uint64(3) {
		_, all, _ := rewrite.Storm(p, seed, 50)
		for n := range 50 {
			q, list, _ := rewrite.Storm(p, seed, n)
			if len(list) > len(all) || !sameMutations(list, all[:len(list)]) {
				t.Fatalf("seed %d: %v, and %d times: %v", seed, all, n, list)
			}
			r := p
			for _, x := range list {
				r, _ = rewrite.Apply(r, x)
			}
			if !syntax.Same(q, r) {
				t.Errorf("seed %d, %d times:\n%s\nwant\n%s", seed, n, text(q), text(r))
			}
		}
	}
}

// P7.3: a program for which no rule has a site is left as it is.
func TestStormOfNothing(t *testing.T) {
	p := read(t, "global g: int; func f(a: int[2]) { } func main() { }")
	for seed := range uint64(20) {
		if q, list, e := rewrite.Storm(p, seed, 50); e != api.OK || len(list) > 0 || !syntax.Same(p, q) {
			t.Errorf("seed %d: error %d, %v\n%s", seed, e, list, text(q))
		}
	}
}
