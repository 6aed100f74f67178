package types

import (
	"slices"

	"cupel/api"
)

func scalar(kind int) api.Type { return api.Type{Kind: kind} }

func isNumber(t api.Type) bool { return t == scalar(api.TyInt) || t == scalar(api.TySmall) }

// exprKinds says for each kind of expressions which flaws it may have, and what its type is.
func (s *scan) exprKinds() map[int]func(x typed) api.Type {
	return map[int]func(x typed) api.Type{
		api.ExInt:   func(typed) api.Type { return scalar(api.TyInt) },
		api.ExSmall: func(typed) api.Type { return scalar(api.TySmall) },
		api.ExBool:  func(typed) api.Type { return scalar(api.TyBool) },
		api.ExName: func(x typed) api.Type {
			v := s.find(x.Name)
			if v == nil {
				s.require(false, api.FlName)
				return api.Type{}
			}
			s.require(v.Type.Len == 0 || x.use == asArgument, api.FlType)
			if !v.Set && s.unset.Code == 0 {
				s.unset = s.here(api.FlUnset)
			}
			return v.Type
		},
		api.ExIndex: func(x typed) api.Type {
			v := s.find(x.Name)
			if v == nil {
				s.require(false, api.FlName)
				return api.Type{}
			}
			s.require(v.Type.Len > 0 && x.args[0] == scalar(api.TyInt), api.FlType)
			return scalar(v.Type.Kind)
		},
		api.ExCall:   s.call,
		api.ExUnary:  s.unary,
		api.ExBinary: s.binary,
		api.ExToInt: func(x typed) api.Type {
			s.require(x.args[0] == scalar(api.TySmall) || x.args[0] == scalar(api.TyBool), api.FlType)
			return scalar(api.TyInt)
		},
		api.ExToSmall: func(x typed) api.Type {
			s.require(x.args[0] == scalar(api.TyInt), api.FlType)
			return scalar(api.TySmall)
		},
	}
}

func (s *scan) call(x typed) api.Type {
	i := slices.IndexFunc(s.program.Funcs, func(f api.Func) bool { return f.Name == x.Name })
	if i < 0 {
		s.require(false, api.FlName)
		return api.Type{}
	}
	f := s.program.Funcs[i]
	s.require(slices.EqualFunc(x.args, f.Params, func(t api.Type, p api.Param) bool { return t == p.Type }), api.FlArgs)
	s.require(f.Result != 0 || x.use == asStatement, api.FlResult)
	return scalar(f.Result)
}

func (s *scan) unary(x typed) api.Type {
	operand := x.args[0]
	if x.Op == api.UnNot {
		s.require(operand == scalar(api.TyBool), api.FlType)
	} else {
		s.require(isNumber(operand), api.FlType)
	}
	return operand
}

func (s *scan) binary(x typed) api.Type {
	left, right := x.args[0], x.args[1]
	s.require(left == right, api.FlType)
	switch x.Op {
	case api.BiEq, api.BiNe:
		return scalar(api.TyBool)
	case api.BiLt, api.BiLe, api.BiGt, api.BiGe:
		s.require(isNumber(left), api.FlType)
		return scalar(api.TyBool)
	case api.BiLand, api.BiLor:
		s.require(left == scalar(api.TyBool), api.FlType)
		return left
	}
	s.require(isNumber(left), api.FlType)
	return left
}

// stmtKinds says for each kind of statements, when its Exprs have been looked at, which flaws it may have, and what it makes visible or gives a value.
func (s *scan) stmtKinds() map[int]func(x *api.Stmt, values []api.Type) {
	simple := func(*api.Stmt, []api.Type) {}
	jump := func(*api.Stmt, []api.Type) { s.require(s.loops > 0, api.FlLoop) }
	return map[int]func(x *api.Stmt, values []api.Type){
		api.StLet: s.let,
		api.StSet: s.set,
		api.StPut: func(x *api.Stmt, values []api.Type) {
			v := s.find(x.Name)
			if v == nil {
				s.require(false, api.FlName)
				return
			}
			s.require(v.Type.Len > 0 && values[0] == scalar(api.TyInt) && values[1] == scalar(v.Type.Kind), api.FlType)
		},
		api.StCall:  simple,
		api.StPrint: simple,
		api.StTrap:  simple,
		api.StIf: func(x *api.Stmt, values []api.Type) {
			s.require(values[0] == scalar(api.TyBool), api.FlType)
			s.branches(x)
		},
		api.StWhile: func(x *api.Stmt, values []api.Type) {
			s.require(values[0] == scalar(api.TyBool), api.FlType)
			s.loop(x)
		},
		api.StFor: func(x *api.Stmt, values []api.Type) {
			s.require(values[0] == scalar(api.TyInt) && values[1] == scalar(api.TyInt), api.FlType)
			s.require(s.find(x.Name) == nil, api.FlAgain)
			s.loop(x, api.Known{Name: x.Name, Type: scalar(api.TyInt), Where: api.KnFor, Set: true})
		},
		api.StBreak:    jump,
		api.StContinue: jump,
		api.StReturn: func(x *api.Stmt, values []api.Type) {
			s.require((len(values) > 0) == (s.function.Result != 0), api.FlResult)
			s.require(len(values) == 0 || values[0] == scalar(s.function.Result), api.FlType)
		},
	}
}

func (s *scan) let(x *api.Stmt, values []api.Type) {
	s.require(len(values) == 0 || values[0] == x.Type, api.FlType)
	s.require(s.find(x.Name) == nil, api.FlAgain)
	hasValue := len(values) > 0 || x.Type.Len > 0
	s.visible = append(s.visible, api.Known{Name: x.Name, Type: x.Type, Where: api.KnLocal, Set: hasValue})
}

func (s *scan) set(x *api.Stmt, values []api.Type) {
	v := s.find(x.Name)
	if v == nil {
		s.require(false, api.FlName)
		return
	}
	s.require(values[0] == v.Type, api.FlType)
	s.require(v.Where != api.KnFor, api.FlFixed)
	v.Set = true
}
