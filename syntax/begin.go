package syntax

import "slices"

// isOne tells whether one of these texts stands next.
func (p *parser) isOne(texts ...string) bool {
	return slices.ContainsFunc(texts, p.is)
}

func (p *parser) beginsDecl() bool {
	return p.isOne("INTERFACE", "CLASS", "PROGRAM", "TASK")
}
