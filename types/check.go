package types

import "cupel/api"

// flawOf returns the first flaw of a well-formed program, phase by phase.
func flawOf(p *api.Program) api.Flaw {
	s := newScan(p)
	var w *web
	phases := []func() api.Flaw{
		func() api.Flaw { return declaredAgain(p) },
		func() api.Flaw { return withoutMain(p) },
		func() api.Flaw { s.run(); return s.flaw },
		func() api.Flaw { w = connect(p); return w.firstCycle() },
		func() api.Flaw { return w.firstShared() },
		func() api.Flaw { return s.unset },
		func() api.Flaw { return openEnd(p) },
	}
	for _, phase := range phases {
		if flaw := phase(); flaw.Code != 0 {
			return flaw
		}
	}
	return api.Flaw{}
}

func declaredAgain(p *api.Program) api.Flaw {
	globals, funcs := map[string]bool{}, map[string]bool{}
	for _, g := range p.Globals {
		if globals[g.Name] {
			return api.Flaw{Code: api.FlAgain}
		}
		globals[g.Name] = true
	}
	for i, f := range p.Funcs {
		if funcs[f.Name] || paramAgain(f.Params, globals) {
			return api.Flaw{Code: api.FlAgain, Path: []int{i}}
		}
		funcs[f.Name] = true
	}
	return api.Flaw{}
}

func paramAgain(params []api.Param, globals map[string]bool) bool {
	before := map[string]bool{}
	for _, p := range params {
		if globals[p.Name] || before[p.Name] {
			return true
		}
		before[p.Name] = true
	}
	return false
}

func withoutMain(p *api.Program) api.Flaw {
	for _, f := range p.Funcs {
		if f.Name == "main" && len(f.Params) == 0 && f.Result == 0 {
			return api.Flaw{}
		}
	}
	return api.Flaw{Code: api.FlMain}
}

func openEnd(p *api.Program) api.Flaw {
	for i, f := range p.Funcs {
		if f.Result != 0 && blockEnds(f.Body) {
			return api.Flaw{Code: api.FlReturn, Path: []int{i}}
		}
	}
	return api.Flaw{}
}

// blockEnds reports whether a list of statements ends normally.
func blockEnds(list []api.Stmt) bool {
	for i := range list {
		if !ends(&list[i]) {
			return false
		}
	}
	return true
}

// ends reports whether a statement ends normally.
func ends(x *api.Stmt) bool {
	switch x.Kind {
	case api.StReturn, api.StTrap, api.StBreak, api.StContinue:
		return false
	case api.StIf:
		return blockEnds(x.Body) || blockEnds(x.Else) // without an Else, the empty list ends normally
	}
	return true
}
