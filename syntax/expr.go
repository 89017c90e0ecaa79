package syntax

import "governor/api"

// expr reads an expression that is nested so deeply.
func (p *parser) expr(deep int) api.Expr {
	if p.beginsExpr() {
		p.depth(deep)
	}
	switch {
	case p.take("-"):
		return api.Expr{Kind: api.Neg, Args: []api.Expr{p.operand(deep)}}
	case p.take("NOT"):
		return api.Expr{Kind: api.Not, Args: []api.Expr{p.operand(deep)}}
	}
	left := p.operand(deep)
	op := operator(p.now().Text)
	if op == 0 {
		return left
	}
	p.at++
	return api.Expr{Kind: api.Bin, N: op, Args: []api.Expr{left, p.operand(deep)}}
}

func (p *parser) operand(deep int) api.Expr {
	if p.now().Kind == api.Digit {
		return api.Expr{Kind: api.Num, N: p.number()}
	}
	switch {
	case p.take("TRUE"):
		return api.Expr{Kind: api.True}
	case p.take("FALSE"):
		return api.Expr{Kind: api.False}
	case p.take("NULL"):
		return api.Expr{Kind: api.Null}
	case p.take("THIS"):
		return p.invoke(1, "", deep)
	case p.take("SUPER"):
		return p.invoke(2, "", deep)
	case p.take("REF"):
		return api.Expr{Kind: api.RefOf, Name: p.bracketed()}
	case p.take("DONE"):
		return api.Expr{Kind: api.Out, Name: p.bracketed()}
	case p.take("COUNT"):
		return api.Expr{Kind: api.Count, Name: p.bracketed()}
	case p.take("AS"):
		name := p.name()
		p.need("(")
		return api.Expr{Kind: api.As, Name: name, Args: []api.Expr{p.inner(deep, ")")}}
	case p.take("("):
		return p.inner(deep, ")")
	}
	return p.variableOrCall(p.name(), deep)
}

func (p *parser) variableOrCall(name string, deep int) api.Expr {
	if p.take("[") {
		return api.Expr{Kind: api.Index, Name: name, Args: []api.Expr{p.inner(deep, "]")}}
	}
	if p.is(".") {
		return p.invoke(0, name, deep)
	}
	return api.Expr{Kind: api.Name, Name: name}
}

// inner reads an expression within an operand, and the sign that closes it.
func (p *parser) inner(deep int, closing string) api.Expr {
	e := p.expr(deep + 1)
	p.need(closing)
	return e
}

func (p *parser) bracketed() string {
	p.need("(")
	name := p.name()
	p.need(")")
	return name
}

// invoke reads a call, from its dot on.
func (p *parser) invoke(on int, name string, deep int) api.Expr {
	p.need(".")
	e := api.Expr{Kind: api.Invoke, N: on, Name: name, What: p.name()}
	p.need("(")
	if !p.is(")") {
		e.Args = several(p, api.MaxParams, (*parser).beginsExpr, func(p *parser) api.Expr { return p.expr(deep + 1) })
	}
	p.need(")")
	return e
}

func operator(text string) int {
	switch text {
	case "+":
		return api.Add
	case "-":
		return api.Sub
	case "*":
		return api.Mul
	case "/":
		return api.Div
	case "MOD":
		return api.Mod
	case "=":
		return api.Eq
	case "<>":
		return api.Ne
	case "<":
		return api.Lt
	case "<=":
		return api.Le
	case ">":
		return api.Gt
	case ">=":
		return api.Ge
	case "AND":
		return api.And
	case "OR":
		return api.Or
	case "XOR":
		return api.Xor
	}
	return 0
}
