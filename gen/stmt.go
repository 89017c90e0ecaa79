package gen

import "governor/api"

func (m *maker) list(list []api.Stmt) {
	for i := range list {
		m.stmt(&list[i])
	}
}

func (m *maker) stmt(s *api.Stmt) {
	switch s.Kind {
	case api.If:
		m.choice(s)
	case api.Case:
		m.cases(s)
	case api.While:
		m.while(s)
	case api.For:
		m.loop(s)
	default:
		m.simple(s)
	}
}

// pay lays the cost of a statement and of all its expressions, and then these.
func (m *maker) pay(s *api.Stmt, cost int) {
	for _, e := range s.Exprs {
		cost += nodes(e)
	}
	m.tick(cost)
	for i := range s.Exprs {
		m.expr(&s.Exprs[i])
	}
}

// simple lays a statement that has no blocks.
func (m *maker) simple(s *api.Stmt) {
	m.pay(s, 1)
	p := m.vars[s.Name]
	switch s.Kind {
	case api.Attempt:
		kind, number := m.class(p.v.Type.Name)
		m.emit(api.OpTry, kind, number)
		fallthrough
	case api.Assign:
		if p.v.Type.Kind == api.Range {
			m.emit(api.OpRange, p.v.Type.Lo, p.v.Type.Hi)
		}
		m.emit(p.store, p.slot, 0)
	case api.Put:
		m.emit(p.put, p.slot, p.v.Type.Hi+1)
	case api.Step:
		m.emit(api.OpStep, m.Block(m.at.Decl, s.Name), 0)
	case api.Do:
		if m.answers(&s.Exprs[0]) {
			m.emit(api.OpPop, 0, 0)
		}
	case api.Return:
		if len(s.Exprs) > 0 {
			m.emit(api.OpRetV, 0, 0)
		} else {
			m.emit(api.OpRet, 0, 0)
		}
	case api.Exit:
		m.exits = append(m.exits, m.ahead(api.OpJump))
	}
}

func (m *maker) choice(s *api.Stmt) {
	var ends []int
	cost := 1
	for i := range s.Exprs {
		m.tick(cost + nodes(s.Exprs[i]))
		cost = 0
		m.expr(&s.Exprs[i])
		next := m.ahead(api.OpFalse)
		m.list(s.Blocks[i])
		ends = append(ends, m.ahead(api.OpJump))
		m.here(next)
	}
	m.list(s.Blocks[len(s.Exprs)])
	m.here(ends...)
}

func (m *maker) cases(s *api.Stmt) {
	cost := 1
	for _, labels := range s.Labels {
		cost += len(labels)
	}
	m.pay(s, cost)
	value, free := m.hold()
	m.emit(api.OpStore, value, 0)
	starts := make([][]int, len(s.Labels))
	for i, labels := range s.Labels {
		for _, label := range labels {
			m.emit(api.OpLoad, value, 0)
			m.emit(api.OpPush, label, 0)
			m.emit(api.OpBin, api.Ne, 0)
			starts[i] = append(starts[i], m.ahead(api.OpFalse))
		}
	}
	free()
	m.list(s.Blocks[len(s.Labels)])
	ends := []int{m.ahead(api.OpJump)}
	for i := range s.Labels {
		m.here(starts[i]...)
		m.list(s.Blocks[i])
		ends = append(ends, m.ahead(api.OpJump))
	}
	m.here(ends...)
}

// looped lays what a loop repeats; behind it stands what an EXIT within it leads to.
func (m *maker) looped(lay func()) {
	outer := m.exits
	m.exits = nil
	lay()
	m.here(m.exits...)
	m.exits = outer
}

func (m *maker) while(s *api.Stmt) {
	m.tick(1)
	m.looped(func() {
		head := len(m.ops)
		m.pay(s, 1)
		m.exits = append(m.exits, m.ahead(api.OpFalse))
		m.list(s.Blocks[0])
		m.emit(api.OpJump, head, 0)
	})
}

func (m *maker) loop(s *api.Stmt) {
	m.pay(s, 1)
	p := m.vars[s.Name]
	to, free := m.hold()
	m.emit(api.OpStore, to, 0)
	m.emit(p.store, p.slot, 0)
	within := api.Le
	if s.N < 0 {
		within = api.Ge
	}
	m.looped(func() {
		head := len(m.ops)
		m.tick(1)
		m.emit(p.load, p.slot, 0)
		m.emit(api.OpLoad, to, 0)
		m.emit(api.OpBin, within, 0)
		m.exits = append(m.exits, m.ahead(api.OpFalse))
		m.list(s.Blocks[0])
		m.advance(p, s.N, within)
		m.emit(api.OpJump, head, 0)
	})
	free()
}

// advance adds a loop's step to its variable; the loop ends where that leads out of 16 bits.
func (m *maker) advance(p place, by int, within int) {
	if by < -farthest || by > farthest {
		m.exits = append(m.exits, m.ahead(api.OpJump))
		return
	}
	last := api.Highest - by
	if by < 0 {
		last = api.Lowest - by
	}
	m.emit(p.load, p.slot, 0)
	m.emit(api.OpPush, last, 0)
	m.emit(api.OpBin, within, 0)
	m.exits = append(m.exits, m.ahead(api.OpFalse))
	m.emit(p.load, p.slot, 0)
	m.emit(api.OpPush, fit(by), 0)
	m.emit(api.OpBin, api.Add, 0)
	m.emit(p.store, p.slot, 0)
}
