package mean

import (
	"governor/api"
	"governor/word"
)

// is tells whether an instance's class is of a class or interface.
func (r *run) is(inst int, what string) bool {
	class := r.mem.insts[inst-1].class
	return r.mem.book.Is(r.mem.book.Unit.Decls[class].Name, what)
}

// expr is what an expression is worth; false, if a fault ended it.
func (r *run) expr(f *frame, e *api.Expr) (int, bool) {
	switch e.Kind {
	case api.Num:
		return word.Fit(e.N), true
	case api.True:
		return 1, true
	case api.False, api.Null:
		return 0, true
	case api.Name, api.RefOf:
		return f.cell(e.Name).data[0], true
	case api.Out:
		if f.cell(e.Name).block.Q {
			return 1, true
		}
		return 0, true
	case api.Count:
		return f.cell(e.Name).block.CV, true
	case api.Bin:
		return r.binary(f, e)
	case api.Invoke:
		return r.invoke(f, e)
	}
	return r.unary(f, e)
}

// unary is what an expression of one part is worth.
func (r *run) unary(f *frame, e *api.Expr) (int, bool) {
	n, ok := r.expr(f, &e.Args[0])
	if !ok {
		return 0, false
	}
	switch e.Kind {
	case api.Neg:
		return word.Neg(n), true
	case api.Not:
		return word.Not(n), true
	case api.Index:
		data := f.cell(e.Name).data
		if n < 0 || n >= len(data) {
			r.fail(api.IndexOut)
			return 0, false
		}
		return data[n], true
	}
	if n != 0 && !r.is(n, e.Name) {
		r.fail(api.CastFault)
		return 0, false
	}
	return n, true
}

func (r *run) binary(f *frame, e *api.Expr) (int, bool) {
	a, ok := r.expr(f, &e.Args[0])
	if !ok {
		return 0, false
	}
	b, ok := r.expr(f, &e.Args[1])
	if !ok {
		return 0, false
	}
	n, ok := word.Do(e.N, a, b)
	if !ok {
		r.fail(api.DivZero)
	}
	return n, ok
}

func (r *run) invoke(f *frame, e *api.Expr) (int, bool) {
	self := f.self
	if e.N == 0 {
		self = f.cell(e.Name).data[0]
	}
	args := make([]int, len(e.Args))
	for i := range e.Args {
		n, ok := r.expr(f, &e.Args[i])
		if !ok {
			return 0, false
		}
		args[i] = n
	}
	if self == 0 {
		r.fail(api.NullFault)
		return 0, false
	}
	class := r.mem.insts[self-1].class
	if e.N == 2 {
		class = r.mem.book.Next(f.at.Decl)
	}
	w, _ := r.mem.book.Method(class, e.What)
	return r.call(w, self, args)
}

// call executes a method on an instance.
func (r *run) call(w api.Where, self int, args []int) (int, bool) {
	method := r.mem.book.At(w)
	locals := fresh(method.Params)
	for i, n := range args {
		locals[i].data[0] = n
	}
	locals = append(locals, fresh(method.Vars)...)
	callee := &frame{scope: r.mem.scope(w), at: w, self: self, locals: locals, own: r.mem.insts[self-1].fields}
	switch r.list(callee, method.Body) {
	case stopped:
		return 0, false
	case returned:
		return r.answer, true
	}
	return 0, true
}
