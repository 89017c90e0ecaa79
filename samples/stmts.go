package samples

// list makes statements, as many as there is room for.
func (m *maker) list(most int) string {
	text := ""
	for range 1 + m.below(most) {
		if m.room <= 0 {
			break
		}
		m.room--
		text += " " + m.stmt()
	}
	return text
}

// stmt makes a statement: of those that can't be made here, another one.
func (m *maker) stmt() string {
	s := &m.scope
	switch m.below(16) {
	case 0:
		return "IF " + m.truth(1) + " THEN" + m.list(2) + m.one("", " ELSE"+m.list(2), " ELSIF "+m.truth(1)+" THEN"+m.list(1)+" ELSE"+m.list(1)) + " END_IF ;"
	case 1:
		return "CASE " + m.value(1) + " OF 0 , - 1 :" + m.list(2) + " 1 , 2 , 7 :" + m.list(1) + m.one("", " ELSE"+m.list(2)) + " END_CASE ;"
	case 2, 3:
		return m.loop()
	case 4:
		if len(s.arrays) > 0 {
			return m.one(s.arrays...) + " [ " + m.place(1) + " ] := " + m.value(1) + " ;"
		}
		fallthrough
	case 5:
		if len(s.flags) > 0 {
			return m.one(s.flags...) + " := " + m.truth(1) + " ;"
		}
		fallthrough
	case 6, 7:
		if len(s.refs) > 0 {
			return m.one(s.refs...) + m.one(" := "+m.ref(1), " ?= "+m.anyRef(1)) + " ;"
		}
		fallthrough
	case 8:
		if len(s.faces) > 0 {
			return m.one(s.faces...) + m.one(" := ", " ?= ") + m.anyRef(1) + " ;"
		}
		fallthrough
	case 9:
		if len(s.ranges) > 0 {
			return m.one(s.ranges...) + " := " + m.one("1", "9", m.value(1)) + " ;"
		}
		fallthrough
	case 10:
		if len(s.blocks) > 0 {
			return "STEP t ( " + m.truth(1) + " , " + m.value(1) + " ) ;"
		}
		fallthrough
	case 11, 12:
		if call := m.call(1, 2); call != "" {
			return call + " ;"
		}
		fallthrough
	case 13:
		if m.looped > 0 {
			return "IF " + m.truth(1) + " THEN EXIT ; END_IF ;"
		}
		fallthrough
	case 14:
		if m.chance(3) {
			return "IF " + m.truth(1) + " THEN" + m.leave() + " END_IF ;"
		}
	}
	return m.one(s.targets...) + " := " + m.value(1) + " ;"
}

// leave makes a statement that ends the method, or the program.
func (m *maker) leave() string {
	if !m.scope.answers {
		return " RETURN ;"
	}
	if m.scope.truth {
		return " RETURN " + m.truth(1) + " ;"
	}
	return " RETURN " + m.value(1) + " ;"
}

func (m *maker) loop() string {
	m.looped++
	defer func() { m.looped-- }()
	if len(m.scope.counts) == 0 || m.chance(3) {
		return "WHILE " + m.truth(1) + " DO" + m.list(2) + m.one("", " EXIT ;") + " END_WHILE ;"
	}
	step := m.one("1", "2", "- 1", "- 3", "1000", "- 32768")
	return "FOR " + m.one(m.scope.counts...) + " := " + m.value(1) + " TO " + m.value(1) + " BY " + step + " DO" + m.list(2) + " END_FOR ;"
}
