package graph

import (
	"iter"

	"governor/api"
)

// invokes goes over all calls in statements.
func invokes(list []api.Stmt) iter.Seq[api.Expr] {
	return func(yield func(api.Expr) bool) {
		inList(list, yield)
	}
}

func inList(list []api.Stmt, yield func(api.Expr) bool) bool {
	for _, s := range list {
		if !inExprs(s.Exprs, yield) {
			return false
		}
		for _, block := range s.Blocks {
			if !inList(block, yield) {
				return false
			}
		}
	}
	return true
}

func inExprs(list []api.Expr, yield func(api.Expr) bool) bool {
	for _, e := range list {
		if e.Kind == api.Invoke && !yield(e) || !inExprs(e.Args, yield) {
			return false
		}
	}
	return true
}
