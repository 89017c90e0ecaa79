package rules

import "governor/api"

func (a *asked) mayBeParam(t api.Type) bool {
	switch t.Kind {
	case api.Int, api.Bool:
		return true
	case api.Ref:
		return a.Typed(t.Name) >= 0
	}
	return false
}

func (a *asked) mayBeField(t api.Type) bool {
	switch t.Kind {
	case api.Range:
		return api.Lowest <= t.Lo && t.Lo <= t.Hi && t.Hi <= api.Highest
	case api.Array:
		return 0 <= t.Hi && t.Hi < api.MaxArray
	}
	return a.mayBeParam(t)
}

func (a *asked) mayBeProgramVar(t api.Type) bool {
	switch t.Kind {
	case api.Inst:
		c := a.Find(t.Name)
		return a.Has(c, api.Class) && !a.Unit.Decls[c].Abstract
	case api.Timer:
		return api.TON <= t.Lo && t.Lo <= api.FTrig
	}
	return a.mayBeField(t)
}

func mayBeResult(t api.Type) bool {
	return t.Kind == api.None || t.Kind == api.Int || t.Kind == api.Bool
}

// badInit tells whether a variable may not be at first what it is to be.
func badInit(v api.Var) bool {
	lo, hi := 0, 0
	switch v.Type.Kind {
	case api.Int:
		lo, hi = api.Lowest, api.Highest
	case api.Bool:
		hi = 1
	case api.Range:
		lo, hi = v.Type.Lo, v.Type.Hi
	}
	return v.Init < lo || v.Init > hi
}

// signatureKind tells whether a parameter's or the result's type may not be.
func (a *asked) signatureKind(m *api.Method) bool {
	return !mayBeResult(m.Result) || anyVar(m.Params, func(v api.Var) bool { return !a.mayBeParam(v.Type) })
}

func (a *asked) signatureKinds() bool {
	return anyMethod(a.d, a.signatureKind)
}

func (a *asked) signatureNames() bool {
	return twice(methodNames(a.d)) || anyMethod(a.d, func(m *api.Method) bool { return twice(varNames(m.Params)) })
}
