package syntax

import (
	"slices"

	"governor/api"
)

func (p *parser) isName() bool {
	return p.now().Kind == api.Word
}

func (p *parser) isInt() bool {
	return p.now().Kind == api.Digit || p.is("-")
}

// isOne tells whether one of these texts stands next.
func (p *parser) isOne(texts ...string) bool {
	return slices.ContainsFunc(texts, p.is)
}

func (p *parser) beginsDecl() bool {
	return p.isOne("INTERFACE", "CLASS", "PROGRAM", "TASK")
}

func (p *parser) beginsStmt() bool {
	return p.isName() || p.isOne("IF", "CASE", "WHILE", "FOR", "RETURN", "EXIT", "STEP", "THIS", "SUPER")
}

func (p *parser) beginsExpr() bool {
	return p.isName() || p.isInt() || p.isOne("NOT", "TRUE", "FALSE", "NULL", "THIS", "SUPER", "REF", "DONE", "COUNT", "AS", "(")
}
