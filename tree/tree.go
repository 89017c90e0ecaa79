// Package tree copies trees, for those who keep one that was handed in.
package tree

import (
	"slices"

	"governor/api"
)

// Copy is a unit that shares no memory with u.
func Copy(u api.Unit) api.Unit {
	return api.Unit{Decls: each(u.Decls, decl)}
}

func each[T any](list []T, one func(T) T) []T {
	if list == nil {
		return nil
	}
	all := make([]T, len(list))
	for i, x := range list {
		all[i] = one(x)
	}
	return all
}

func decl(d api.Decl) api.Decl {
	d.Faces = slices.Clone(d.Faces)
	d.Vars = slices.Clone(d.Vars)
	d.Methods = each(d.Methods, method)
	d.Body = each(d.Body, stmt)
	return d
}

func method(m api.Method) api.Method {
	m.Params = slices.Clone(m.Params)
	m.Vars = slices.Clone(m.Vars)
	m.Body = each(m.Body, stmt)
	return m
}

func stmt(s api.Stmt) api.Stmt {
	s.Exprs = each(s.Exprs, expr)
	s.Labels = each(s.Labels, slices.Clone[[]int])
	s.Blocks = each(s.Blocks, func(block []api.Stmt) []api.Stmt { return each(block, stmt) })
	return s
}

func expr(e api.Expr) api.Expr {
	e.Args = each(e.Args, expr)
	return e
}
