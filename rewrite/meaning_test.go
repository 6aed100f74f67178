package rewrite_test

import (
	"math/rand/v2"
	"reflect"
	"slices"
	"testing"

	"cupel/api"
	"cupel/rewrite"
	"cupel/sem"
	"cupel/syntax"
	"cupel/types"
)

// checkAgreement looks whether a rewritten program has no flaw, and agrees with the program before, for some steps of both.
func checkAgreement(t *testing.T, dice *rand.Rand, p, q api.Program, what any) {
	t.Helper()
	if flaw, e := types.Check(q); e != api.OK || flaw.Code != 0 {
		t.Fatalf("%s\n%v: error %d, flaw %v\n%s", text(p), what, e, flaw, text(q))
	}
	whole, before, _, _ := sem.Run(p, api.MaxSteps)
	if whole.End == api.EnUndefined {
		return
	}
	rewritten, after, _, _ := sem.Run(q, api.MaxSteps)
	if ended := whole.End != api.EnSteps && rewritten.End != api.EnSteps; ended && !reflect.DeepEqual(whole, rewritten) {
		t.Fatalf("%s\n%v: %v, %v\n%s", text(p), what, whole, rewritten, text(q))
	}
	few, _, _, _ := sem.Run(p, dice.IntN(before+1))
	fewer, _, _, _ := sem.Run(q, dice.IntN(after+1))
	for _, pair := range [][2]api.Behaviour{{whole, rewritten}, {few, rewritten}, {whole, fewer}, {few, fewer}} {
		if !sem.Agree(pair[0], pair[1]) {
			t.Fatalf("%s\n%v: %v\n%s", text(p), what, pair, text(q))
		}
	}
}

// P7.4: what each rule makes of many programs has no flaw, and agrees with them.
func TestAgreement(t *testing.T) {
	dice := rand.New(rand.NewPCG(2, 8))
	ends, sites := map[int]int{}, [ruleCount]int{}
	look := func(p api.Program) {
		b, _, _, _ := sem.Run(p, api.MaxSteps)
		ends[b.End]++
		for rule := range ruleCount {
			list, _ := rewrite.Sites(p, rule)
			for i, path := range list {
				if i > 0 && dice.IntN(len(list)) > 2 {
					continue
				}
				x := api.Mutation{Rule: rule, At: path, Seed: dice.Uint64()}
				q, _ := rewrite.Apply(p, x)
				checkAgreement(t, dice, p, q, x)
				sites[rule]++
			}
		}
	}
	programs(t, 160, look)
	generated(15, look)
	if ends[api.EnDone] < 50 || ends[api.EnTrap] < 15 || slices.Min(sites[:]) < 30 {
		t.Errorf("ends %v, sites %v", ends, sites)
	}
	t.Log(ends, sites)
}

// P7.4: where a rewrite must keep the order of effects, and what is evaluated at all.
func TestOrderOfEffects(t *testing.T) {
	dice := rand.New(rand.NewPCG(3, 8))
	functions := " func f(n: int): int { print n; g = g + n; a[n & 1] = g; return g; } func q(n: int): bool { print n; return n > g; } func s(n: small): small { print n; return ~n; }"
	sites := 0
	for _, body := range []string{
		"print f(1) + f(2) + f(3); print f(4) * f(5) * 2; print f(6) & f(7) & f(8);",
		"a[f(1) & 1] = f(2); a[g & 1] = f(1); print a[0]; print a[1]; a[g] = f(9) / 0;",
		"print q(1) && q(9) && q(2); print q(9) || q(1) || q(9); print (q(0) || q(1)) && q(2);",
		"for i in f(0) .. f(3) { print i; if i > 4 { return; } } print g;",
		"for i in 0 .. 3 { let x: int = f(i); if x > 4 { trap; } print x; } print g;",
		"for i in 0 .. 3 { let x: int; if i == 1 { x = 4; } else { x = g; } f(x); for j in i .. 3 { if j == 2 { break; } f(j); } } print g;",
		"if q(1) { f(1); } else { f(2); } if q(7) { } else { f(3); } while q(9) upto 3 { f(4); if g > 9 { break; } }",
		"print s(100s) * 2s; print s(7s) * 128s; print s(3s) * 16s; print -s(1s); print ~s(1s);",
		"print f(1) * 4611686018427387904; print f(3) * 2; print g * 2 * 2; print -9223372036854775807 - 1;",
		"let x: int = g; let y: int = 4; x = f(x); print x + y; let z: int = x; let u: int = z - g; print u;",
		"let x: bool; let y: small; let z: int; for i in 0 .. 2 { x = i > 0; y = small(i); z = i; print x; print y; print z; }",
		"let f: int = f(2); print f(f); let z: int[2]; z[f & 1] = f; print z[0] - z[1]; z[f(3) & 1] = z[f(4) & 1];",
		"while g < 9 upto 4 { for i in 2 .. 4 { print f(i); } let x: int = g; print x; }",
		"print 1 / (g - 3); print 2;",
		"let x: int = 1 % (g - 3); print 2;",
	} {
		p := read(t, "global g: int = 3; global a: int[2]; func main() { "+body+" }"+functions)
		for rule := range ruleCount {
			list, _ := rewrite.Sites(p, rule)
			for _, path := range list {
				x := api.Mutation{Rule: rule, At: path, Seed: 1}
				q, _ := rewrite.Apply(p, x)
				checkAgreement(t, dice, p, q, x)
				sites++
			}
		}
	}
	if sites < 1000 {
		t.Errorf("%d sites", sites)
	}
}

// P7.4: storms agree as well.
func TestStormAgrees(t *testing.T) {
	dice := rand.New(rand.NewPCG(4, 8))
	look := func(p api.Program) {
		seed := dice.Uint64()
		q, list, e := rewrite.Storm(p, seed, 1+dice.IntN(20))
		if e != api.OK {
			t.Fatalf("%s\nseed %d: error %d", text(p), seed, e)
		}
		checkAgreement(t, dice, p, q, list)
	}
	programs(t, 150, look)
	generated(50, look)
	for _, n := range []int{50, 49} {
		q, list, _ := rewrite.Storm(read(t, various), 77, n)
		checkAgreement(t, dice, read(t, various), q, list)
	}
}

// P7.5: commute and mirror undo themselves; turn, twice, adds two negations; rename makes no difference to Run.
func TestTwice(t *testing.T) {
	dice := rand.New(rand.NewPCG(5, 8))
	done := map[int]int{}
	look := func(p api.Program) {
		for _, rule := range []int{commute, mirror, turn, rename} {
			sites, _ := rewrite.Sites(p, rule)
			for _, path := range sites {
				q, _ := rewrite.Apply(p, api.Mutation{Rule: rule, At: path})
				switch rule {
				case turn:
					checkTurned(t, p, q, path)
				case rename:
					checkRenamed(t, dice, p, q)
				default:
					r, e := rewrite.Apply(q, api.Mutation{Rule: rule, At: path})
					if e != api.OK || !syntax.Same(p, r) {
						t.Fatalf("%s\nrule %d at %v, twice: error %d\n%s", text(p), rule, path, e, text(r))
					}
				}
				done[rule]++
			}
		}
	}
	programs(t, 100, look)
	generated(20, look)
	if len(done) != 4 || done[mirror] < 50 || done[turn] < 50 {
		t.Errorf("done: %v", done)
	}
}

func checkTurned(t *testing.T, p, q api.Program, path []int) {
	t.Helper()
	n, _ := syntax.At(p, path)
	if len(n.Stmt.Body) == 0 {
		return // has no Else when it is turned
	}
	r, e := rewrite.Apply(q, api.Mutation{Rule: turn, At: path})
	if e == api.ErrNone && syntax.Size(q) == api.MaxProgram {
		return
	}
	for range 2 {
		n.Stmt.Exprs = []api.Expr{{Kind: api.ExUnary, Op: api.UnNot, Args: n.Stmt.Exprs}}
	}
	if want, _ := syntax.Replace(p, path, n); e != api.OK || !syntax.Same(r, want) {
		t.Fatalf("%s\nturned at %v, twice: error %d\n%s", text(p), path, e, text(r))
	}
}

func checkRenamed(t *testing.T, dice *rand.Rand, p, q api.Program) {
	t.Helper()
	_, all, _, _ := sem.Run(p, api.MaxSteps)
	for _, steps := range []int{api.MaxSteps, all, dice.IntN(all + 1)} {
		a, used, place, _ := sem.Run(p, steps)
		b, alsoUsed, alsoPlace, e := sem.Run(q, steps)
		if e != api.OK || !reflect.DeepEqual(a, b) || used != alsoUsed || !slices.Equal(place, alsoPlace) {
			t.Fatalf("%s\ndoes %v, %d steps, %v; renamed: error %d\n%s\n%v, %d steps, %v", text(p), a, used, place, e, text(q), b, alsoUsed, alsoPlace)
		}
	}
}
