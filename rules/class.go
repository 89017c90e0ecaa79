package rules

import (
	"governor/api"
	"governor/table"
	"governor/typing"
)

func (a *asked) class() int {
	code := firstBroken(rule{api.Base, a.base}, rule{api.Face, a.faces}, rule{api.Kind, a.kinds}, rule{api.Init, a.inits},
		rule{api.Twice, a.names}, rule{api.Abstract, a.abstract}, rule{api.Over, a.over}, rule{api.Face, a.unmet})
	if code != api.Fine {
		return code
	}
	for i, m := range a.d.Methods {
		if m.Abstract {
			continue
		}
		if code := typing.Stmts(a.Unit, api.Where{Decl: a.at, Method: i}, m.Body); code != api.Fine {
			return code
		}
	}
	return api.Fine
}

func (a *asked) base() bool {
	if a.d.Base == "" {
		return false
	}
	b := a.Find(a.d.Base)
	return b >= a.at || !a.Has(b, api.Class) || a.Unit.Decls[b].Final
}

func (a *asked) faces() bool {
	for _, name := range a.d.Faces {
		if !a.Has(a.Find(name), api.Interface) {
			return true
		}
	}
	return twice(a.d.Faces)
}

func (a *asked) kinds() bool {
	directed := func(v api.Var) bool { return v.Dir != 0 }
	bad := func(v api.Var) bool { return directed(v) || !a.mayBeField(v.Type) }
	return anyVar(a.d.Vars, bad) || anyMethod(a.d, func(m *api.Method) bool {
		return a.signatureKind(m) || anyVar(m.Params, directed) || anyVar(m.Vars, bad)
	})
}

func (a *asked) inits() bool {
	return anyVar(a.d.Vars, badInit) || anyMethod(a.d, func(m *api.Method) bool { return anyVar(m.Vars, badInit) })
}

func (a *asked) names() bool {
	fields := varNames(a.Fields(a.at))
	return twice(fields) || twice(methodNames(a.d)) || anyMethod(a.d, func(m *api.Method) bool {
		return twice(append(append(varNames(m.Params), varNames(m.Vars)...), fields...))
	})
}

func (a *asked) abstract() bool {
	if a.d.Abstract && a.d.Final || anyMethod(a.d, a.badAbstract) {
		return true
	}
	if a.d.Abstract {
		return false
	}
	// Of one name the method of the first class is meant.
	met := map[string]int{}
	for _, c := range a.Chain(a.at) {
		if anyMethod(&a.Unit.Decls[c], func(m *api.Method) bool {
			met[m.Name]++
			return met[m.Name] == 1 && m.Abstract
		}) {
			return true
		}
	}
	return false
}

// badAbstract tells whether a method is abstract that may not be.
func (a *asked) badAbstract(m *api.Method) bool {
	return m.Abstract && (m.Final || len(m.Vars) > 0 || len(m.Body) > 0 || !a.d.Abstract)
}

func (a *asked) over() bool {
	next := a.Next(a.at)
	return anyMethod(a.d, func(m *api.Method) bool {
		w, ok := a.Method(next, m.Name)
		if !ok || !m.Over {
			return ok != m.Over
		}
		return a.At(w).Final || !table.Alike(*m, *a.At(w))
	})
}

// unmet tells whether an interface asks for a method that is not there, or is another.
func (a *asked) unmet() bool {
	for _, f := range a.Faces(a.at) {
		if anyMethod(&a.Unit.Decls[f], func(m *api.Method) bool {
			w, ok := a.Method(a.at, m.Name)
			return !ok || !table.Alike(*m, *a.At(w))
		}) {
			return true
		}
	}
	return false
}
