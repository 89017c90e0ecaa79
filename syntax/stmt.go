package syntax

import "governor/api"

// list reads statements, as long as one begins; ends tells whether an empty list may end ahead of what stands next.
func (p *parser) list(deep int, ends bool) []api.Stmt {
	if ends || p.beginsStmt() {
		p.depth(deep)
	}
	var list []api.Stmt
	for p.beginsStmt() {
		p.room(len(list), api.MaxStmts)
		list = append(list, p.stmt(deep))
	}
	return list
}

func (p *parser) stmt(deep int) api.Stmt {
	s := p.open(deep)
	p.need(";")
	return s
}

// open reads a statement without its semicolon.
func (p *parser) open(deep int) api.Stmt {
	switch {
	case p.take("IF"):
		return p.choice(deep)
	case p.take("CASE"):
		return p.cases(deep)
	case p.take("WHILE"):
		return p.while(deep)
	case p.take("FOR"):
		return p.loop(deep)
	case p.take("RETURN"):
		return p.answer()
	case p.take("EXIT"):
		return api.Stmt{Kind: api.Exit}
	case p.take("STEP"):
		return p.step()
	case p.is("THIS"), p.is("SUPER"):
		return api.Stmt{Kind: api.Do, Exprs: []api.Expr{p.operand(1)}}
	}
	return p.named(p.name())
}

// named reads a statement that begins with a name.
func (p *parser) named(name string) api.Stmt {
	switch {
	case p.take(":="):
		return api.Stmt{Kind: api.Assign, Name: name, Exprs: []api.Expr{p.expr(1)}}
	case p.take("?="):
		return api.Stmt{Kind: api.Attempt, Name: name, Exprs: []api.Expr{p.expr(1)}}
	case p.take("["):
		place := p.expr(1)
		p.need("]", ":=")
		return api.Stmt{Kind: api.Put, Name: name, Exprs: []api.Expr{place, p.expr(1)}}
	}
	return api.Stmt{Kind: api.Do, Exprs: []api.Expr{p.invoke(0, name, 1)}}
}

func (p *parser) choice(deep int) api.Stmt {
	s := api.Stmt{Kind: api.If}
	for {
		s.Exprs = append(s.Exprs, p.expr(1))
		p.need("THEN")
		s.Blocks = append(s.Blocks, p.list(deep+1, p.isOne("ELSIF", "ELSE", "END_IF")))
		if !p.is("ELSIF") {
			break
		}
		p.room(len(s.Exprs), api.MaxParts)
		p.take("ELSIF")
	}
	s.Blocks = append(s.Blocks, p.otherwise(deep+1, "END_IF"))
	return s
}

func (p *parser) cases(deep int) api.Stmt {
	s := api.Stmt{Kind: api.Case, Exprs: []api.Expr{p.expr(1)}}
	p.need("OF")
	for p.isInt() {
		p.room(len(s.Labels), api.MaxParts)
		s.Labels = append(s.Labels, several(p, api.MaxLabels, (*parser).isInt, (*parser).int))
		p.need(":")
		s.Blocks = append(s.Blocks, p.list(deep+1, p.isInt() || p.isOne("ELSE", "END_CASE")))
	}
	s.Blocks = append(s.Blocks, p.otherwise(deep+1, "END_CASE"))
	return s
}

// otherwise reads ELSE and its list, if they stand there, and the word that ends the statement.
func (p *parser) otherwise(deep int, end string) []api.Stmt {
	var list []api.Stmt
	if p.take("ELSE") {
		list = p.list(deep, p.is(end))
	}
	p.need(end)
	return list
}

func (p *parser) while(deep int) api.Stmt {
	s := api.Stmt{Kind: api.While, Exprs: []api.Expr{p.expr(1)}}
	p.need("DO")
	s.Blocks = [][]api.Stmt{p.list(deep+1, p.is("END_WHILE"))}
	p.need("END_WHILE")
	return s
}

func (p *parser) loop(deep int) api.Stmt {
	s := api.Stmt{Kind: api.For, Name: p.name()}
	p.need(":=")
	from := p.expr(1)
	p.need("TO")
	s.Exprs = []api.Expr{from, p.expr(1)}
	p.need("BY")
	s.N = p.int()
	p.need("DO")
	s.Blocks = [][]api.Stmt{p.list(deep+1, p.is("END_FOR"))}
	p.need("END_FOR")
	return s
}

func (p *parser) answer() api.Stmt {
	if p.is(";") {
		return api.Stmt{Kind: api.Return}
	}
	return api.Stmt{Kind: api.Return, Exprs: []api.Expr{p.expr(1)}}
}

func (p *parser) step() api.Stmt {
	s := api.Stmt{Kind: api.Step, Name: p.name()}
	p.need("(")
	in := p.expr(1)
	p.need(",")
	s.Exprs = []api.Expr{in, p.expr(1)}
	p.need(")")
	return s
}
