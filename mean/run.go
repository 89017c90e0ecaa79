package mean

import (
	"governor/api"
	"governor/block"
)

// run is one that is under way.
type run struct {
	mem          *Mem
	dt           int
	budget, cost int
	fault        int
	answer       int
}

// frame is a method, or a program, that executes: its own cells are fields, or a program's variables.
type frame struct {
	scope  scope
	at     api.Where
	self   int
	locals []cell
	own    []cell
}

// scope says where the variables are that a place names.
type scope map[string]spot

type spot struct {
	local bool
	index int
}

// How a statement ended.
const (
	goesOn   = 0
	exited   = 1
	returned = 2
	stopped  = 3 // by a fault
)

func (m *Mem) scope(w api.Where) scope {
	s, ok := m.scopes[w]
	if ok {
		return s
	}
	s = scope{}
	locals := 0
	if m.book.IsMethod(w) {
		locals = len(m.book.At(w).Params) + len(m.book.At(w).Vars)
	}
	for i, v := range m.book.Visible(w) {
		if i < locals {
			s[v.Name] = spot{true, i}
		} else {
			s[v.Name] = spot{false, i - locals}
		}
	}
	m.scopes[w] = s
	return s
}

func (f *frame) cell(name string) *cell {
	at := f.scope[name]
	if at.local {
		return &f.locals[at.index]
	}
	return &f.own[at.index]
}

// spend adds to the cost, as long as the budget lasts.
func (r *run) spend(n int) bool {
	r.cost += n
	if r.cost > r.budget {
		r.cost = r.budget + 1
		r.fail(api.Watchdog)
		return false
	}
	return true
}

func (r *run) fail(fault int) int {
	r.fault = fault
	return stopped
}

func (r *run) list(f *frame, list []api.Stmt) int {
	for i := range list {
		if end := r.stmt(f, &list[i]); end != goesOn {
			return end
		}
	}
	return goesOn
}

func (r *run) stmt(f *frame, s *api.Stmt) int {
	switch s.Kind {
	case api.If:
		return r.choice(f, s)
	case api.Case:
		return r.cases(f, s)
	case api.While:
		return r.while(f, s)
	case api.For:
		return r.loop(f, s)
	}
	return r.simple(f, s)
}

// simple executes a statement that has no blocks.
func (r *run) simple(f *frame, s *api.Stmt) int {
	values, ok := r.values(f, s, 1)
	if !ok {
		return stopped
	}
	switch s.Kind {
	case api.Attempt:
		if values[0] != 0 && !r.is(values[0], f.cell(s.Name).v.Type.Name) {
			values[0] = 0
		}
		fallthrough
	case api.Assign:
		return r.store(f.cell(s.Name), values[0])
	case api.Put:
		c := f.cell(s.Name)
		if values[0] < 0 || values[0] >= len(c.data) {
			return r.fail(api.IndexOut)
		}
		c.data[values[0]] = values[1]
	case api.Step:
		c := f.cell(s.Name)
		c.block = block.Step(c.block, values[0] != 0, values[1], r.dt)
	case api.Return:
		r.answer = values[0]
		return returned
	case api.Exit:
		return exited
	}
	return goesOn
}

func (r *run) store(c *cell, n int) int {
	if c.v.Type.Kind == api.Range && (n < c.v.Type.Lo || n > c.v.Type.Hi) {
		return r.fail(api.RangeOut)
	}
	c.data[0] = n
	return goesOn
}

// values pays for a statement and all its expressions, and then tells what they are.
func (r *run) values(f *frame, s *api.Stmt, cost int) ([2]int, bool) {
	var values [2]int
	for _, e := range s.Exprs {
		cost += Nodes(e)
	}
	if !r.spend(cost) {
		return values, false
	}
	for i := range s.Exprs {
		n, ok := r.expr(f, &s.Exprs[i])
		if !ok {
			return values, false
		}
		values[i] = n
	}
	return values, true
}

// holds pays for a condition, and tells whether it is true.
func (r *run) holds(f *frame, e *api.Expr, cost int) (bool, bool) {
	if !r.spend(cost + Nodes(*e)) {
		return false, false
	}
	n, ok := r.expr(f, e)
	return n != 0, ok
}

func (r *run) choice(f *frame, s *api.Stmt) int {
	if !r.spend(1) {
		return stopped
	}
	for i := range s.Exprs {
		so, ok := r.holds(f, &s.Exprs[i], 0)
		if !ok {
			return stopped
		}
		if so {
			return r.list(f, s.Blocks[i])
		}
	}
	return r.list(f, s.Blocks[len(s.Exprs)])
}

func (r *run) cases(f *frame, s *api.Stmt) int {
	cost := 1
	for _, labels := range s.Labels {
		cost += len(labels)
	}
	values, ok := r.values(f, s, cost)
	if !ok {
		return stopped
	}
	for i, labels := range s.Labels {
		for _, label := range labels {
			if label == values[0] {
				return r.list(f, s.Blocks[i])
			}
		}
	}
	return r.list(f, s.Blocks[len(s.Labels)])
}

func (r *run) while(f *frame, s *api.Stmt) int {
	if !r.spend(1) {
		return stopped
	}
	for {
		so, ok := r.holds(f, &s.Exprs[0], 1)
		if !ok {
			return stopped
		}
		if !so {
			return goesOn
		}
		if end := r.list(f, s.Blocks[0]); end != goesOn {
			return behind(end)
		}
	}
}

// behind is how a loop ends whose block ended so.
func behind(end int) int {
	if end == exited {
		return goesOn
	}
	return end
}

func (r *run) loop(f *frame, s *api.Stmt) int {
	values, ok := r.values(f, s, 1)
	if !ok {
		return stopped
	}
	c := f.cell(s.Name)
	c.data[0] = values[0]
	for {
		if !r.spend(1) {
			return stopped
		}
		if s.N > 0 && c.data[0] > values[1] || s.N < 0 && c.data[0] < values[1] {
			return goesOn
		}
		if end := r.list(f, s.Blocks[0]); end != goesOn {
			return behind(end)
		}
		next := c.data[0] + s.N
		if next < api.Lowest || next > api.Highest {
			return goesOn
		}
		c.data[0] = next
	}
}
