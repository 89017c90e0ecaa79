package typing

import "governor/api"

// arity is how many parts an expression of a kind has; -1, if it is of no kind.
func arity(e api.Expr) int {
	switch e.Kind {
	case api.Num, api.True, api.False, api.Null, api.Name, api.RefOf, api.Out, api.Count:
		return 0
	case api.Index, api.Neg, api.Not, api.As:
		return 1
	case api.Bin:
		return 2
	case api.Invoke:
		return len(e.Args)
	}
	return -1
}

// wrong is no type, with a code.
func wrong(code int) (api.Type, int) {
	return api.Type{}, code
}

// typed is a type of a kind that needs no more, with a code.
func typed(kind int, code int) (api.Type, int) {
	if code != api.Fine {
		return wrong(code)
	}
	return api.Type{Kind: kind}, api.Fine
}

func (c *checker) expr(e api.Expr) (api.Type, int) {
	if arity(e) != len(e.Args) {
		return wrong(api.Typing)
	}
	switch e.Kind {
	case api.Num:
		return typed(api.Int, api.Fine)
	case api.True, api.False:
		return typed(api.Bool, api.Fine)
	case api.Null:
		return typed(api.Ref, api.Fine)
	case api.Name:
		return c.name(e.Name)
	case api.Index:
		if _, code := c.find(e.Name, api.Array); code != api.Fine {
			return wrong(code)
		}
		fallthrough
	case api.Neg:
		return typed(api.Int, c.of(e.Args, api.Int))
	case api.Not:
		return typed(api.Bool, c.of(e.Args, api.Bool))
	case api.Bin:
		return c.binary(e)
	case api.RefOf:
		v, code := c.find(e.Name, api.Inst)
		if code != api.Fine {
			return wrong(code)
		}
		return api.Type{Kind: api.Ref, Name: v.Type.Name}, api.Fine
	case api.Out:
		_, code := c.find(e.Name, api.Timer)
		return typed(api.Bool, code)
	case api.Count:
		_, code := c.find(e.Name, api.Timer)
		return typed(api.Int, code)
	case api.As:
		return c.cast(e)
	}
	return c.invoke(e, false)
}

func (c *checker) name(name string) (api.Type, int) {
	v, code := c.find(name, api.Int, api.Bool, api.Range, api.Ref)
	if code != api.Fine {
		return wrong(code)
	}
	switch v.Type.Kind {
	case api.Range:
		v.Type.Kind = api.Int
		fallthrough
	case api.Int, api.Bool:
		return typed(v.Type.Kind, api.Fine)
	}
	return v.Type, api.Fine
}

// all types expressions, in order, up to one that has a code.
func (c *checker) all(list []api.Expr) ([]api.Type, int) {
	var types []api.Type
	for _, e := range list {
		t, code := c.expr(e)
		if code != api.Fine {
			return nil, code
		}
		types = append(types, t)
	}
	return types, api.Fine
}

// of tells what is wrong with expressions that are to be of these kinds.
func (c *checker) of(list []api.Expr, kinds ...int) int {
	types, code := c.all(list)
	if code != api.Fine {
		return code
	}
	for i, t := range types {
		if t.Kind != kinds[i] {
			return api.Typing
		}
	}
	return api.Fine
}

func (c *checker) binary(e api.Expr) (api.Type, int) {
	types, code := c.all(e.Args)
	if code != api.Fine {
		return wrong(code)
	}
	both := func(kind int) bool { return types[0].Kind == kind && types[1].Kind == kind }
	switch e.N {
	case api.Add, api.Sub, api.Mul, api.Div, api.Mod:
		if both(api.Int) {
			return typed(api.Int, api.Fine)
		}
	case api.Eq, api.Ne:
		if both(api.Bool) || both(api.Ref) {
			return typed(api.Bool, api.Fine)
		}
		fallthrough
	case api.Lt, api.Le, api.Gt, api.Ge:
		if both(api.Int) {
			return typed(api.Bool, api.Fine)
		}
	case api.And, api.Or, api.Xor:
		if both(api.Bool) {
			return typed(api.Bool, api.Fine)
		}
	}
	return wrong(api.Typing)
}

func (c *checker) cast(e api.Expr) (api.Type, int) {
	if c.book.Typed(e.Name) < 0 {
		return wrong(api.Unknown)
	}
	if code := c.of(e.Args, api.Ref); code != api.Fine {
		return wrong(code)
	}
	return api.Type{Kind: api.Ref, Name: e.Name}, api.Fine
}

// invoke types a call, that is to answer, if it is not a statement.
func (c *checker) invoke(e api.Expr, alone bool) (api.Type, int) {
	d, code := c.class(e)
	if code != api.Fine {
		return wrong(code)
	}
	w, ok := c.book.Method(d, e.What)
	if !ok {
		return wrong(api.Call)
	}
	m := c.book.At(w)
	if e.N == 2 && m.Abstract {
		return wrong(api.Call)
	}
	types, code := c.all(e.Args)
	if code != api.Fine {
		return wrong(code)
	}
	if !c.accepts(m, types) {
		return wrong(api.Call)
	}
	if m.Result.Kind == api.None && !alone {
		return wrong(api.Typing)
	}
	return m.Result, api.Fine
}

func (c *checker) accepts(m *api.Method, types []api.Type) bool {
	if len(types) != len(m.Params) {
		return false
	}
	for i, t := range types {
		if !fits(c.book, m.Params[i].Type, t) {
			return false
		}
	}
	return true
}

// class is the class or interface whose method a call means.
func (c *checker) class(e api.Expr) (int, int) {
	switch e.N {
	case 0:
		return c.target(e.Name)
	case 1:
		if c.method == nil {
			return -1, api.Call
		}
		return c.decl, api.Fine
	case 2:
		if c.method == nil {
			return -1, api.Call
		}
		next := c.book.Next(c.decl)
		if next < 0 {
			return -1, api.Call
		}
		return next, api.Fine
	}
	return -1, api.Typing
}

// target is the class or interface of the variable that a call is made on.
func (c *checker) target(name string) (int, int) {
	v, code := c.find(name, api.Inst, api.Ref)
	if code != api.Fine {
		return -1, code
	}
	if v.Type.Kind == api.Ref && v.Type.Name == "" {
		return -1, api.Typing
	}
	d := c.book.Typed(v.Type.Name)
	if d < 0 {
		return -1, api.Unknown
	}
	return d, api.Fine
}
