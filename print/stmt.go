package print

import "governor/api"

func (w *writer) list(list []api.Stmt) {
	for _, s := range list {
		w.stmt(s)
		w.put(";")
	}
}

// stmt writes a statement without its semicolon.
func (w *writer) stmt(s api.Stmt) {
	switch s.Kind {
	case api.Assign:
		w.put(s.Name, ":=")
		w.at(s.Exprs, 0)
	case api.Put:
		w.put(s.Name, "[")
		w.at(s.Exprs, 0)
		w.put("]", ":=")
		w.at(s.Exprs, 1)
	case api.Attempt:
		w.put(s.Name, "?=")
		fallthrough
	case api.Do:
		w.at(s.Exprs, 0)
	case api.If:
		w.choice(s)
	case api.Case:
		w.cases(s)
	case api.While:
		w.put("WHILE")
		w.at(s.Exprs, 0)
		w.loop(s, "END_WHILE")
	case api.For:
		w.put("FOR", s.Name, ":=")
		w.at(s.Exprs, 0)
		w.put("TO")
		w.at(s.Exprs, 1)
		w.put("BY")
		w.number(s.N)
		w.loop(s, "END_FOR")
	case api.Return:
		w.put("RETURN")
		if len(s.Exprs) > 0 {
			w.expr(s.Exprs[0])
		}
	case api.Exit:
		w.put("EXIT")
	case api.Step:
		w.put("STEP", s.Name, "(")
		w.at(s.Exprs, 0)
		w.put(",")
		w.at(s.Exprs, 1)
		w.put(")")
	default:
		w.put(unknown)
	}
}

func (w *writer) loop(s api.Stmt, end string) {
	w.put("DO")
	w.list(block(s, 0))
	w.put(end)
}

func (w *writer) choice(s api.Stmt) {
	parts := max(1, len(s.Exprs))
	for i := range parts {
		if i == 0 {
			w.put("IF")
		} else {
			w.put("ELSIF")
		}
		w.at(s.Exprs, i)
		w.put("THEN")
		w.list(block(s, i))
	}
	w.otherwise(block(s, parts))
	w.put("END_IF")
}

func (w *writer) cases(s api.Stmt) {
	w.put("CASE")
	w.at(s.Exprs, 0)
	w.put("OF")
	for i, labels := range s.Labels {
		for j, label := range labels {
			w.flag(j > 0, ",")
			w.number(label)
		}
		w.put(":")
		w.list(block(s, i))
	}
	w.otherwise(block(s, len(s.Labels)))
	w.put("END_CASE")
}

func (w *writer) otherwise(list []api.Stmt) {
	if len(list) > 0 {
		w.put("ELSE")
		w.list(list)
	}
}

// block is a statement's block; an empty one, if there are not so many.
func block(s api.Stmt, i int) []api.Stmt {
	if i >= len(s.Blocks) {
		return nil
	}
	return s.Blocks[i]
}
