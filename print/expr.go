package print

import "governor/api"

func (w *writer) expr(e api.Expr) {
	switch e.Kind {
	case api.Num:
		w.number(e.N)
	case api.True:
		w.put("TRUE")
	case api.False:
		w.put("FALSE")
	case api.Null:
		w.put("NULL")
	case api.Index:
		w.put(e.Name, "[")
		w.at(e.Args, 0)
		w.put("]")
	case api.Neg:
		w.put("-")
		w.operand(e.Args, 0)
	case api.Not:
		w.put("NOT")
		w.operand(e.Args, 0)
	case api.Bin:
		w.operand(e.Args, 0)
		w.put(operator(e.N))
		w.operand(e.Args, 1)
	case api.RefOf:
		w.put("REF", "(", e.Name, ")")
	case api.Out:
		w.put("DONE", "(", e.Name, ")")
	case api.Count:
		w.put("COUNT", "(", e.Name, ")")
	case api.Invoke:
		w.invoke(e)
	case api.As:
		w.put("AS", e.Name, "(")
		w.at(e.Args, 0)
		w.put(")")
	case api.Name:
		w.put(e.Name)
	default:
		w.put(unknown)
	}
}

func (w *writer) invoke(e api.Expr) {
	on := unknown
	switch e.N {
	case 0:
		on = e.Name
	case 1:
		on = "THIS"
	case 2:
		on = "SUPER"
	}
	w.put(on, ".", e.What, "(")
	for i, arg := range e.Args {
		w.flag(i > 0, ",")
		w.expr(arg)
	}
	w.put(")")
}

// at writes one of a list of expressions, that may be too short.
func (w *writer) at(list []api.Expr, i int) {
	if i >= len(list) {
		w.put(unknown)
		return
	}
	w.expr(list[i])
}

// operand writes one that stands beside an operator: in brackets, where it has one itself.
func (w *writer) operand(list []api.Expr, i int) {
	if i >= len(list) {
		w.put(unknown)
		return
	}
	switch list[i].Kind {
	case api.Neg, api.Not, api.Bin:
		w.put("(")
		w.expr(list[i])
		w.put(")")
	default:
		w.expr(list[i])
	}
}
