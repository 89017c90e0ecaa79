package syntax

import "governor/api"

func (p *parser) unit() (api.Unit, []int) {
	var u api.Unit
	var places []int
	for p.beginsDecl() {
		p.room(len(u.Decls), api.MaxDecls)
		places = append(places, p.now().At)
		u.Decls = append(u.Decls, p.decl())
	}
	if !p.ended() {
		p.fail(api.Syntax)
	}
	return u, places
}

func (p *parser) decl() api.Decl {
	switch {
	case p.take("INTERFACE"):
		return p.face()
	case p.take("CLASS"):
		return p.class()
	case p.take("PROGRAM"):
		return p.program()
	case p.take("TASK"):
		return p.task()
	}
	return api.Decl{}
}

func (p *parser) face() api.Decl {
	d := api.Decl{Kind: api.Interface, Name: p.name()}
	p.need(";")
	for p.is("METHOD") {
		p.room(len(d.Methods), api.MaxMethods)
		p.need("METHOD")
		d.Methods = append(d.Methods, p.signature(api.Method{}))
	}
	p.need("END_INTERFACE")
	return d
}

func (p *parser) class() api.Decl {
	d := api.Decl{Kind: api.Class, Abstract: p.take("ABSTRACT"), Final: p.take("FINAL"), Name: p.name()}
	if p.take("EXTENDS") {
		d.Base = p.name()
	}
	if p.take("IMPLEMENTS") {
		d.Faces = several(p, api.MaxFaces, (*parser).isName, (*parser).name)
	}
	p.need(";")
	d.Vars = p.vars()
	for p.is("METHOD") {
		p.room(len(d.Methods), api.MaxMethods)
		p.need("METHOD")
		d.Methods = append(d.Methods, p.method())
	}
	p.need("END_CLASS")
	return d
}

func (p *parser) program() api.Decl {
	d := api.Decl{Kind: api.Program, Name: p.name()}
	p.need(";")
	d.Vars = p.vars()
	d.Body = p.list(1, p.is("END_PROGRAM"))
	p.need("END_PROGRAM")
	return d
}

func (p *parser) task() api.Decl {
	d := api.Decl{Kind: api.TaskOf, Name: p.name()}
	p.need("(", "INTERVAL")
	d.Every = p.number()
	p.need(",", "PRIORITY")
	d.First = p.number()
	p.need(")", ":")
	d.Base = p.name()
	p.need(";")
	return d
}

func (p *parser) method() api.Method {
	m := p.signature(api.Method{Over: p.take("OVERRIDE"), Abstract: p.take("ABSTRACT"), Final: p.take("FINAL")})
	m.Vars = p.vars()
	m.Body = p.list(1, p.is("END_METHOD"))
	p.need("END_METHOD")
	return m
}

// signature reads what an interface's method and a class's have in common.
func (p *parser) signature(m api.Method) api.Method {
	m.Name = p.name()
	p.need("(")
	if !p.is(")") {
		m.Params = several(p, api.MaxParams, (*parser).isName, (*parser).param)
	}
	p.need(")")
	if p.take(":") {
		m.Result = p.typ()
	}
	p.need(";")
	return m
}

func (p *parser) param() api.Var {
	v := api.Var{Name: p.name()}
	p.need(":")
	v.Type = p.typ()
	return v
}

func (p *parser) vars() []api.Var {
	var vars []api.Var
	for p.is("VAR") {
		p.room(len(vars), api.MaxVars)
		p.need("VAR")
		vars = append(vars, p.variable())
	}
	return vars
}

func (p *parser) variable() api.Var {
	v := p.param()
	if p.take(":=") {
		v.Init = p.int()
	}
	if p.take("AT") {
		switch {
		case p.take("IN"):
			v.Dir = 1
		case p.take("OUT"):
			v.Dir = 2
		default:
			p.fail(api.Syntax)
		}
		v.Slot = p.number()
	}
	p.need(";")
	return v
}

func (p *parser) typ() api.Type {
	if block := blockOf(p.now().Text); block != 0 {
		p.at++
		return api.Type{Kind: api.Timer, Lo: block}
	}
	switch {
	case p.take("INT"):
		return p.numbers()
	case p.take("BOOL"):
		return api.Type{Kind: api.Bool}
	case p.take("ARRAY"):
		p.need("[")
		size := p.number()
		p.need("]", "OF", "INT")
		return api.Type{Kind: api.Array, Hi: size}
	case p.take("REF_TO"):
		return api.Type{Kind: api.Ref, Name: p.name()}
	}
	return api.Type{Kind: api.Inst, Name: p.name()}
}

// numbers reads what follows INT: nothing, or the limits of a range.
func (p *parser) numbers() api.Type {
	if !p.take("(") {
		return api.Type{Kind: api.Int}
	}
	t := api.Type{Kind: api.Range, Lo: p.int()}
	p.need("..")
	t.Hi = p.int()
	p.need(")")
	return t
}

func blockOf(text string) int {
	switch text {
	case "TON":
		return api.TON
	case "TOF":
		return api.TOF
	case "TP":
		return api.TP
	case "CTU":
		return api.CTU
	case "CTD":
		return api.CTD
	case "R_TRIG":
		return api.RTrig
	case "F_TRIG":
		return api.FTrig
	}
	return 0
}

// several reads one thing and, behind commas, more of them, as many as may be; begins tells whether one stands next.
func several[T any](p *parser, most int, begins func(*parser) bool, one func(*parser) T) []T {
	var all []T
	for {
		if begins(p) {
			p.room(len(all), most)
		}
		all = append(all, one(p))
		if !p.take(",") {
			return all
		}
	}
}
