package print

import "governor/api"

func (w *writer) decl(d api.Decl) {
	switch d.Kind {
	case api.Interface:
		w.put("INTERFACE", d.Name, ";")
		for _, m := range d.Methods {
			w.put("METHOD")
			w.signature(m)
		}
		w.put("END_INTERFACE")
	case api.Class:
		w.class(d)
	case api.Program:
		w.put("PROGRAM", d.Name, ";")
		w.vars(d.Vars)
		w.list(d.Body)
		w.put("END_PROGRAM")
	case api.TaskOf:
		w.put("TASK", d.Name, "(", "INTERVAL")
		w.number(d.Every)
		w.put(",", "PRIORITY")
		w.number(d.First)
		w.put(")", ":", d.Base, ";")
	default:
		w.put(unknown)
	}
}

func (w *writer) class(d api.Decl) {
	w.put("CLASS")
	w.flag(d.Abstract, "ABSTRACT")
	w.flag(d.Final, "FINAL")
	w.put(d.Name)
	if d.Base != "" {
		w.put("EXTENDS", d.Base)
	}
	for i, face := range d.Faces {
		if i == 0 {
			w.put("IMPLEMENTS", face)
		} else {
			w.put(",", face)
		}
	}
	w.put(";")
	w.vars(d.Vars)
	for _, m := range d.Methods {
		w.method(m)
	}
	w.put("END_CLASS")
}

func (w *writer) flag(so bool, token string) {
	if so {
		w.put(token)
	}
}

func (w *writer) method(m api.Method) {
	w.put("METHOD")
	w.flag(m.Over, "OVERRIDE")
	w.flag(m.Abstract, "ABSTRACT")
	w.flag(m.Final, "FINAL")
	w.signature(m)
	w.vars(m.Vars)
	w.list(m.Body)
	w.put("END_METHOD")
}

func (w *writer) signature(m api.Method) {
	w.put(m.Name, "(")
	for i, v := range m.Params {
		w.flag(i > 0, ",")
		w.put(v.Name, ":")
		w.typ(v.Type)
	}
	w.put(")")
	if m.Result.Kind != api.None {
		w.put(":")
		w.typ(m.Result)
	}
	w.put(";")
}

func (w *writer) vars(vars []api.Var) {
	for _, v := range vars {
		w.put("VAR", v.Name, ":")
		w.typ(v.Type)
		if v.Init != 0 {
			w.put(":=")
			w.number(v.Init)
		}
		switch v.Dir {
		case 1:
			w.put("AT", "IN")
			w.number(v.Slot)
		case 2:
			w.put("AT", "OUT")
			w.number(v.Slot)
		}
		w.put(";")
	}
}
