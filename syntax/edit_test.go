package syntax_test

import (
	"testing"

	"cupel/api"
	"cupel/syntax"
)

func same(t *testing.T, what string, p api.Program, e api.Errno, want string) {
	t.Helper()
	if e != api.OK || !syntax.Same(p, read(t, want)) {
		t.Errorf("%s: %v, %d, want %s", what, p, e, want)
	}
}

func fails(t *testing.T, what string, p api.Program, e, want api.Errno) {
	t.Helper()
	if e != want || !syntax.Same(p, api.Program{}) {
		t.Errorf("%s: %v, %d, want %d", what, p, e, want)
	}
}

// P1.5: Replace.
func TestReplace(t *testing.T) {
	p := read(t, "func main() { print 1 + 2; if a { f(); } else { trap; } } func f() { }")
	leave := api.Node{Kind: api.NdStmt, Stmt: api.Stmt{Kind: api.StBreak}}
	seven := api.Node{Kind: api.NdExpr, Expr: number(7)}
	other := api.Node{Kind: api.NdFunc, Func: api.Func{Name: "g", Result: api.TyBool}}
	for _, c := range []struct {
		path []int
		n    api.Node
		want string
	}{
		{[]int{0}, other, "func g(): bool { } func f() { }"},
		{[]int{1}, other, "func main() { print 1 + 2; if a { f(); } else { trap; } } func g(): bool { }"},
		{[]int{0, 0}, leave, "func main() { break; if a { f(); } else { trap; } } func f() { }"},
		{[]int{0, 1}, leave, "func main() { print 1 + 2; break; } func f() { }"},
		{[]int{0, 1, 0, 0}, leave, "func main() { print 1 + 2; if a { break; } else { trap; } } func f() { }"},
		{[]int{0, 1, 1, 0}, leave, "func main() { print 1 + 2; if a { f(); } else { break; } } func f() { }"},
		{[]int{0, 0, 2}, seven, "func main() { print 7; if a { f(); } else { trap; } } func f() { }"},
		{[]int{0, 0, 2, 1}, seven, "func main() { print 1 + 7; if a { f(); } else { trap; } } func f() { }"},
		{[]int{0, 1, 2}, seven, "func main() { print 1 + 2; if 7 { f(); } else { trap; } } func f() { }"},
	} {
		q, e := syntax.Replace(p, c.path, c.n)
		same(t, "Replace", q, e, c.want)
	}
	q, e := syntax.Replace(p, []int{0, 1, 0, 0, 2}, seven)
	fails(t, "no call", q, e, api.ErrArg)
}

// P1.5: nodes that do not fit.
func TestReplaceErrors(t *testing.T) {
	p := read(t, "func main() { print 1; }")
	paths := [][]int{{0}, {0, 0}, {0, 0, 2}}
	f := api.Func{Name: "f"}
	s := api.Stmt{Kind: api.StTrap}
	x := number(1)
	for i, path := range paths {
		for _, n := range []api.Node{{}, {Kind: -1}, {Kind: 4}, {Func: f}, {Stmt: s}, {Expr: x}, {Kind: i + 1, Func: f, Stmt: s}, {Kind: i + 1, Stmt: s, Expr: x}, {Kind: i + 1, Func: f, Expr: x}, {Kind: i + 1}} {
			q, e := syntax.Replace(p, path, n)
			fails(t, "Replace", q, e, api.ErrArg)
		}
		for j, n := range []api.Node{{Kind: api.NdFunc, Func: f}, {Kind: api.NdStmt, Stmt: s}, {Kind: api.NdExpr, Expr: x}} {
			if q, e := syntax.Replace(p, path, n); i != j {
				fails(t, "another kind", q, e, api.ErrArg)
			}
		}
	}
	args, stmts := []api.Expr{x}, []api.Stmt{s}
	for _, n := range []api.Node{
		{Func: api.Func{Name: "f"}}, {Func: api.Func{Params: make([]api.Param, 1)}}, {Func: api.Func{Result: 1}}, {Func: api.Func{Body: make([]api.Stmt, 1)}},
		{Stmt: api.Stmt{Kind: 1}}, {Stmt: api.Stmt{Name: "x"}}, {Stmt: api.Stmt{Type: api.Type{Kind: 1}}}, {Stmt: api.Stmt{Type: api.Type{Len: 1}}}, {Stmt: api.Stmt{Exprs: args}}, {Stmt: api.Stmt{Bound: 1}}, {Stmt: api.Stmt{Body: stmts}}, {Stmt: api.Stmt{Else: stmts}},
	} {
		n.Kind, n.Expr = api.NdExpr, x
		q, e := syntax.Replace(p, paths[2], n)
		fails(t, "an expression with more", q, e, api.ErrArg)
	}
	for _, more := range []api.Expr{{Kind: 1}, {Op: 1}, {Int: 1}, {Name: "x"}, {Args: args}} {
		q, e := syntax.Replace(p, paths[1], api.Node{Kind: api.NdStmt, Stmt: s, Expr: more})
		fails(t, "a statement with more", q, e, api.ErrArg)
	}
}

// P1.5: what comes first, and the error of the result.
func TestEditResults(t *testing.T) {
	p := read(t, "func main() { print 1; }")
	deep := api.Node{Kind: api.NdExpr, Expr: negated(19)}
	q, e := syntax.Replace(p, []int{0, 0, 2}, deep)
	fails(t, "deep", q, e, api.ErrLong)
	q, e = syntax.Replace(p, []int{0, 0}, deep)
	fails(t, "deep, and another kind", q, e, api.ErrArg)
	q, e = syntax.Replace(p, []int{0, 1}, deep)
	fails(t, "deep, and nowhere", q, e, api.ErrNone)
	q, e = syntax.Replace(p, []int{0, 0, 2}, api.Node{Kind: api.NdExpr, Expr: endlessExpr()})
	fails(t, "endless", q, e, api.ErrLong)
	q, e = syntax.Replace(p, []int{0, 0, 2}, api.Node{Kind: api.NdExpr, Expr: number(-1)})
	fails(t, "wrong", q, e, api.ErrArg)
	q, e = syntax.Insert(p, []int{0, 0}, endlessStmt())
	fails(t, "endless", q, e, api.ErrLong)
	q, e = syntax.Insert(p, []int{0, 0}, api.Stmt{Kind: api.StBreak, Bound: 1})
	fails(t, "wrong", q, e, api.ErrArg)
	q, e = syntax.Insert(p, []int{0, 2}, api.Stmt{})
	fails(t, "wrong, and nowhere", q, e, api.ErrNone)
	full := body(make([]api.Stmt, 399)...)
	for i := range full.Funcs[0].Body {
		full.Funcs[0].Body[i].Kind = api.StTrap
	}
	q, e = syntax.Insert(full, []int{0, 399}, api.Stmt{Kind: api.StTrap})
	fails(t, "full", q, e, api.ErrLong)
	for want, p := range wrongPrograms() {
		q, e = syntax.Replace(p, nil, api.Node{})
		fails(t, "Replace", q, e, want)
		q, e = syntax.Delete(p, []int{0})
		fails(t, "Delete", q, e, want)
		q, e = syntax.Insert(p, nil, api.Stmt{})
		fails(t, "Insert", q, e, want)
	}
}

// P1.5: Delete.
func TestDelete(t *testing.T) {
	p := read(t, "global g: int; func main() { print 1 + 2; if a { f(); break; } else { trap; } } func f() { }")
	for _, c := range []struct {
		path []int
		want string
	}{
		{[]int{0}, "global g: int; func f() { }"},
		{[]int{1}, "global g: int; func main() { print 1 + 2; if a { f(); break; } else { trap; } }"},
		{[]int{0, 0}, "global g: int; func main() { if a { f(); break; } else { trap; } } func f() { }"},
		{[]int{0, 1}, "global g: int; func main() { print 1 + 2; } func f() { }"},
		{[]int{0, 1, 0, 0}, "global g: int; func main() { print 1 + 2; if a { break; } else { trap; } } func f() { }"},
		{[]int{0, 1, 0, 1}, "global g: int; func main() { print 1 + 2; if a { f(); } else { trap; } } func f() { }"},
		{[]int{0, 1, 1, 0}, "global g: int; func main() { print 1 + 2; if a { f(); break; } } func f() { }"},
	} {
		q, e := syntax.Delete(p, c.path)
		same(t, "Delete", q, e, c.want)
	}
	for _, path := range [][]int{{0, 0, 2}, {0, 0, 2, 0}, {0, 1, 0, 0, 2}} {
		q, e := syntax.Delete(p, path)
		fails(t, "an expression", q, e, api.ErrArg)
	}
}

// P1.5: Insert.
func TestInsert(t *testing.T) {
	p := read(t, "func main() { if a { f(); } while b upto 2 { } for i in 0 .. 1 { } print 1; } func f() { }")
	tail := " } func f() { }"
	for _, c := range []struct {
		path []int
		want string
	}{
		{[]int{0, 0}, "func main() { break; if a { f(); } while b upto 2 { } for i in 0 .. 1 { } print 1;" + tail},
		{[]int{0, 3}, "func main() { if a { f(); } while b upto 2 { } for i in 0 .. 1 { } break; print 1;" + tail},
		{[]int{0, 4}, "func main() { if a { f(); } while b upto 2 { } for i in 0 .. 1 { } print 1; break;" + tail},
		{[]int{1, 0}, "func main() { if a { f(); } while b upto 2 { } for i in 0 .. 1 { } print 1; } func f() { break; }"},
		{[]int{0, 0, 0, 0}, "func main() { if a { break; f(); } while b upto 2 { } for i in 0 .. 1 { } print 1;" + tail},
		{[]int{0, 0, 0, 1}, "func main() { if a { f(); break; } while b upto 2 { } for i in 0 .. 1 { } print 1;" + tail},
		{[]int{0, 0, 1, 0}, "func main() { if a { f(); } else { break; } while b upto 2 { } for i in 0 .. 1 { } print 1;" + tail},
		{[]int{0, 1, 0, 0}, "func main() { if a { f(); } while b upto 2 { break; } for i in 0 .. 1 { } print 1;" + tail},
		{[]int{0, 2, 0, 0}, "func main() { if a { f(); } while b upto 2 { } for i in 0 .. 1 { break; } print 1;" + tail},
	} {
		q, e := syntax.Insert(p, c.path, api.Stmt{Kind: api.StBreak})
		same(t, "Insert", q, e, c.want)
	}
	for _, path := range [][]int{nil, {0}, {2}, {-1}, {0, 5}, {0, -1}, {1, 1}, {2, 0}, {0, 0, 0}, {0, 0, 1}, {0, 0, 2}, {0, 0, 0, 2}, {0, 0, 1, 1}, {0, 0, 0, -1}, {0, 0, -1, 0}, {0, 1, 1, 0}, {0, 2, 1, 0}, {0, 3, 0, 0}, {0, 3, 1, 0}, {0, 0, 0, 0, 0, 0}, {0, 0, 0, 0, 2}, {0, 0, 0, 0, 2, 0}, {0, 4, 0, 0}, {0, 0, 3}, {0, 3, 2, 0}} {
		q, e := syntax.Insert(p, path, api.Stmt{Kind: api.StBreak})
		fails(t, "Insert", q, e, api.ErrNone)
	}
}

// P1.7: Replace of a node by itself, and Delete after Insert, change nothing.
func TestUndo(t *testing.T) {
	round := 0
	programs(t, func(p api.Program) {
		if round++; round%8 != 0 { // each one takes long
			return
		}
		paths, _ := syntax.Places(p)
		for _, path := range paths {
			n, _ := syntax.At(p, path)
			if q, e := syntax.Replace(p, path, n); e != api.OK || !syntax.Same(p, q) {
				t.Fatalf("Replace %v: %d", path, e)
			}
			if n.Kind != api.NdStmt {
				continue
			}
			for _, s := range []api.Stmt{n.Stmt, {Kind: api.StTrap}} {
				q, e := syntax.Insert(p, path, s)
				if e == api.ErrLong {
					continue
				}
				if r, f := syntax.Delete(q, path); e != api.OK || f != api.OK || !syntax.Same(p, r) {
					t.Fatalf("Insert %v: %d, Delete: %d", path, e, f)
				}
			}
			q, e := syntax.Delete(p, path)
			if r, f := syntax.Insert(q, path, n.Stmt); e != api.OK || f != api.OK || !syntax.Same(p, r) {
				t.Fatalf("Delete %v: %d, Insert: %d", path, e, f)
			}
		}
	})
}
