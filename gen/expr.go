package gen

import (
	"governor/api"
	"governor/mean"
)

func nodes(e api.Expr) int {
	return mean.Nodes(e)
}

func (m *maker) all(list []api.Expr) {
	for i := range list {
		m.expr(&list[i])
	}
}

// expr lays what leaves an expression's value on the stack.
func (m *maker) expr(e *api.Expr) {
	if e.Kind == api.Invoke {
		m.invoke(e)
		return
	}
	m.all(e.Args)
	p := m.vars[e.Name]
	n := fit(e.N)
	switch e.Kind {
	case api.True, api.False:
		n = 0
		if e.Kind == api.True {
			n = 1
		}
		fallthrough
	case api.Num:
		m.emit(api.OpPush, n, 0)
	case api.Null:
		m.emit(api.OpNull, 0, 0)
	case api.Name:
		m.emit(p.load, p.slot, 0)
	case api.Index:
		m.emit(p.get, p.slot, p.v.Type.Hi+1)
	case api.Neg:
		m.emit(api.OpNeg, 0, 0)
	case api.Not:
		m.emit(api.OpNot, 0, 0)
	case api.Bin:
		m.binary(e)
	case api.RefOf:
		m.emit(api.OpInst, m.Instance(m.at.Decl, e.Name), 0)
	case api.Out:
		m.emit(api.OpQ, m.Block(m.at.Decl, e.Name), 0)
	case api.Count:
		m.emit(api.OpCV, m.Block(m.at.Decl, e.Name), 0)
	case api.As:
		kind, number := m.class(e.Name)
		m.emit(api.OpCast, kind, number)
	}
}

func (m *maker) binary(e *api.Expr) {
	if !m.isRef(&e.Args[0]) {
		m.emit(api.OpBin, e.N, 0)
		return
	}
	other := 0
	if e.N == api.Ne {
		other = 1
	}
	m.emit(api.OpSame, other, 0)
}

// isRef tells whether an expression is a reference; calls answer none.
func (m *maker) isRef(e *api.Expr) bool {
	switch e.Kind {
	case api.Null, api.RefOf, api.As:
		return true
	}
	return e.Kind == api.Name && m.vars[e.Name].v.Type.Kind == api.Ref
}

// target is the class or interface that a call is made on.
func (m *maker) target(e *api.Expr) int {
	switch e.N {
	case 0:
		return m.Book.Find(m.vars[e.Name].v.Type.Name)
	case 1:
		return m.at.Decl
	}
	return m.Book.Next(m.at.Decl)
}

// answers tells whether the method of a call does.
func (m *maker) answers(e *api.Expr) bool {
	w, _ := m.Book.Method(m.target(e), e.What)
	return m.Book.At(w).Result.Kind != api.None
}

func (m *maker) invoke(e *api.Expr) {
	d := m.target(e)
	w, _ := m.Book.Method(d, e.What)
	if e.N == 0 {
		m.instance(e.Name)
	}
	m.all(e.Args)
	switch {
	case e.N == 1:
		m.emit(api.OpThis, m.Slot(d, e.What), 0)
	case e.N == 2:
		m.emit(api.OpCall, m.Code(w), 0)
	case m.Book.Has(d, api.Interface):
		m.emit(api.OpCallI, m.Face(d), w.Method)
	default:
		m.emit(api.OpCallV, m.Slot(d, e.What), m.Class(d))
	}
}

// instance lays the instance that a variable is, or refers to.
func (m *maker) instance(name string) {
	p := m.vars[name]
	if p.v.Type.Kind == api.Inst {
		m.emit(api.OpInst, m.Instance(m.at.Decl, name), 0)
		return
	}
	m.emit(p.load, p.slot, 0)
}
