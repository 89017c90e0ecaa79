package samples

import "strconv"

// Expressions are not nested deeper than this.
const deepest = 3

// value makes an expression that is a number.
func (m *maker) value(deep int) string {
	if deep > deepest || m.chance(3) {
		return m.plain()
	}
	switch m.below(5) {
	case 0:
		return "- " + m.one("1", "2", "7", m.one(m.scope.ints...))
	case 1:
		if call := m.call(deep, 0); call != "" {
			return call
		}
	case 2:
		if len(m.scope.arrays) > 0 {
			return m.one(m.scope.arrays...) + " [ " + m.place(deep+1) + " ]"
		}
	}
	return m.operand(deep) + " " + m.one("+", "-", "*", "/", "MOD", "+", "-") + " " + m.operand(deep)
}

func (m *maker) plain() string {
	if len(m.scope.blocks) > 0 && m.chance(5) {
		return "COUNT ( t )"
	}
	if m.chance(2) {
		return m.one(m.scope.ints...)
	}
	return m.one("0", "1", "2", "3", "5", "100", "32767", "32768")
}

func (m *maker) operand(deep int) string {
	if m.chance(2) {
		return m.plain()
	}
	return "( " + m.value(deep+1) + " )"
}

// place makes an index, most often one within an array.
func (m *maker) place(deep int) string {
	return m.one("0", "1", "2", m.one(m.scope.ints...)+" MOD 3", m.value(deep))
}

// truth makes an expression that is true or false.
func (m *maker) truth(deep int) string {
	if deep > deepest || m.chance(4) {
		return m.one(append([]string{"TRUE", "FALSE"}, m.scope.bools...)...)
	}
	switch m.below(6) {
	case 0:
		return "NOT ( " + m.truth(deep+1) + " )"
	case 1:
		return "( " + m.truth(deep+1) + " ) " + m.one("AND", "OR", "XOR", "=", "<>") + " ( " + m.truth(deep+1) + " )"
	case 2:
		return "( " + m.anyRef(deep+1) + " ) " + m.one("=", "<>") + " ( " + m.anyRef(deep+1) + " )"
	case 3:
		if call := m.call(deep, 1); call != "" {
			return call
		}
	case 4:
		if len(m.scope.blocks) > 0 {
			return "DONE ( t )"
		}
	}
	return m.operand(deep) + " " + m.one("<", "<=", ">", ">=", "=", "<>") + " " + m.operand(deep)
}

// ref makes a reference to an A.
func (m *maker) ref(deep int) string {
	s := &m.scope
	switch m.below(4) {
	case 0:
		if deep <= deepest {
			return "AS " + m.one("A", "B", "C") + " ( " + m.anyRef(deep+1) + " )"
		}
	case 1:
		if len(s.objects) > 0 {
			return "REF ( " + s.objects[0] + " )"
		}
	case 2:
		if len(s.refs) > 0 {
			return m.one(s.refs...)
		}
	}
	return "NULL"
}

// anyRef makes a reference to an I.
func (m *maker) anyRef(deep int) string {
	s := &m.scope
	if len(s.objects) > 0 && m.chance(2) {
		return "REF ( " + m.one(s.objects...) + " )"
	}
	if len(s.faces) > 0 && m.chance(2) {
		return m.one(s.faces...)
	}
	return m.ref(deep)
}

// call makes a call that answers a number (0), a truth (1), or anything (2); nothing, if there is none.
func (m *maker) call(deep int, what int) string {
	s := &m.scope
	level := [...]int{m.below(2), 3, m.below(4)}[what]
	var on []string
	if level < s.level && s.level < 4 && len(s.refs) > 0 {
		on = append(on, "THIS")
	}
	if s.over && level == s.level {
		on = append(on, "SUPER", "SUPER")
	}
	if level < s.level && len(s.objects) > 0 {
		on = append(on, s.objects[0], s.objects[0])
	}
	if level < s.level {
		on = append(on, s.refs...)
		if level < 2 {
			on = append(on, s.faces...)
		}
	}
	if len(on) == 0 || deep > deepest {
		return ""
	}
	args := ""
	switch level {
	case 1:
		args = m.value(deep + 1)
	case 2:
		args = m.value(deep+1) + " , " + m.truth(deep+1)
	case 3:
		args = m.ref(deep + 1)
	}
	return m.one(on...) + " . M" + strconv.Itoa(level) + " ( " + args + " )"
}
