// Package samples makes sources for tests: of each number one, that is always the same.
package samples

import (
	"strconv"
	"strings"
)

// maker makes one source. In a method of a level only those of lower levels are called: so no calls lead round.
type maker struct {
	state  uint64
	scope  scope
	room   int
	looped int
	// bare tells that M2 has no body in A.
	bare bool
}

// scope are the variables that may be named, by what they may stand for.
type scope struct {
	level                                        int
	over, answers, truth                         bool
	ints, targets, ranges, bools, flags          []string
	arrays, refs, faces, objects, blocks, counts []string
}

// Source is the source of a number.
func Source(seed int) string {
	m := &maker{state: uint64(seed)*2654435761 + 12345}
	return m.unit()
}

// below is a number from 0 to n - 1.
func (m *maker) below(n int) int {
	m.state = m.state*6364136223846793005 + 1442695040888963407
	return int(m.state>>33) % n
}

func (m *maker) one(of ...string) string {
	return of[m.below(len(of))]
}

func (m *maker) chance(in int) bool {
	return m.below(in) == 0
}

const head = `INTERFACE I ; METHOD M0 ( ) : INT ; METHOD M1 ( a : INT ) : INT ; END_INTERFACE
INTERFACE J ; METHOD M3 ( r : REF_TO A ) : BOOL ; END_INTERFACE
`

func (m *maker) unit() string {
	var text strings.Builder
	text.WriteString(head)
	abstract := m.chance(3)
	m.bare = abstract
	text.WriteString("CLASS " + pick(abstract, "ABSTRACT ", "") + "A IMPLEMENTS I ; VAR f0 : INT := " + m.number() + " ; VAR f1 : BOOL ; VAR f2 : INT ( - 3 .. 9 ) ; VAR f3 : ARRAY [ 3 ] OF INT ; VAR f4 : REF_TO A ; VAR f5 : REF_TO I ;\n")
	m.fields(false)
	for level := range 4 {
		text.WriteString(m.method(level, false, abstract && level == 2))
	}
	text.WriteString("END_CLASS\n")
	text.WriteString("CLASS B EXTENDS A IMPLEMENTS J ; VAR g0 : INT ; VAR g1 : BOOL := 1 ;\n")
	for level := range 4 {
		if abstract && level == 2 || m.chance(2) {
			text.WriteString(m.inherited(level))
		}
	}
	text.WriteString("END_CLASS\nCLASS C EXTENDS B ; VAR h0 : INT ;\n")
	for level := range 4 {
		if m.chance(2) {
			text.WriteString(m.inherited(level))
		}
	}
	text.WriteString("END_CLASS\nCLASS E IMPLEMENTS I ; VAR f0 : INT ;\n")
	m.scope = scope{ints: []string{"f0"}, targets: []string{"f0"}}
	text.WriteString(m.method(0, false, false) + m.method(1, false, false) + "END_CLASS\n")
	text.WriteString(m.program("P", 0) + m.program("Q", 4))
	text.WriteString("TASK S ( INTERVAL " + m.one("1", "2", "3") + " , PRIORITY " + m.one("0", "1") + " ) : P ;\n")
	text.WriteString("TASK T ( INTERVAL " + m.one("1", "2", "5") + " , PRIORITY " + m.one("0", "1") + " ) : Q ;\n")
	return text.String()
}

func pick(so bool, a string, b string) string {
	if so {
		return a
	}
	return b
}

func (m *maker) number() string {
	n := m.one("0", "1", "2", "3", "7", "100", "32767")
	return pick(m.chance(4), "- ", "") + n
}

// fields makes the scope of a method, of A or of a class that comes of it.
func (m *maker) fields(heir bool) {
	m.scope = scope{ints: []string{"f0"}, targets: []string{"f0"}, ranges: []string{"f2"}, bools: []string{"f1"}, flags: []string{"f1"},
		arrays: []string{"f3"}, refs: []string{"f4"}, faces: []string{"f5"}}
	if heir {
		m.scope.ints = append(m.scope.ints, "g0")
		m.scope.targets = append(m.scope.targets, "g0")
		m.scope.bools = append(m.scope.bools, "g1")
	}
}

func (m *maker) inherited(level int) string {
	m.fields(true)
	return m.method(level, true, false)
}

// method makes one of the four methods.
func (m *maker) method(level int, over bool, abstract bool) string {
	saved := m.scope
	s := &m.scope
	s.level, s.over, s.answers, s.truth = level, over && !(m.bare && level == 2), level != 2, level == 3
	params := [...]string{"( ) : INT", "( a : INT ) : INT", "( a : INT , b : BOOL )", "( r : REF_TO A ) : BOOL"}[level]
	text := "METHOD " + pick(over, "OVERRIDE ", "") + pick(abstract, "ABSTRACT ", "") + "M" + strconv.Itoa(level) + " " + params + " ;"
	if abstract {
		m.scope = saved
		return text + " END_METHOD\n"
	}
	switch level {
	case 2:
		s.bools, s.flags = append(s.bools, "b"), append(s.flags, "b")
		fallthrough
	case 1:
		s.ints, s.targets, s.counts = append(s.ints, "a"), append(s.targets, "a"), append(s.counts, "a")
	case 3:
		s.refs = append(s.refs, "r")
	}
	if m.chance(2) {
		text += " VAR v : INT := 5 ; VAR w : ARRAY [ 2 ] OF INT ; VAR x : INT ( 1 .. 9 ) := 2 ;"
		s.ints, s.targets, s.counts = append(s.ints, "v", "x"), append(s.targets, "v"), append(s.counts, "v")
		s.ranges, s.arrays = append(s.ranges, "x"), append(s.arrays, "w")
	}
	m.room = 3
	text += m.list(4) + m.answer() + " END_METHOD\n"
	m.scope = saved
	return text
}

func (m *maker) answer() string {
	if !m.scope.answers || m.chance(6) {
		return ""
	}
	return m.leave()
}

// program makes a program, with inputs and outputs from a slot on.
func (m *maker) program(name string, slot int) string {
	at := func(n int) string { return strconv.Itoa(slot + n) }
	m.scope = scope{level: 4, ints: []string{"i", "o", "n"}, targets: []string{"o", "n"}, counts: []string{"n", "o"}, bools: []string{"p"}, flags: []string{"p"}, arrays: []string{"l"}}
	text := "PROGRAM " + name + " ; VAR i : INT AT IN " + at(0) + " ; VAR o : INT AT OUT " + at(0) + " ; VAR n : INT := 1 AT OUT " + at(1) + " ; VAR p : BOOL AT OUT " + at(2) + " ; VAR l : ARRAY [ 4 ] OF INT ;"
	if name == "P" {
		text += " VAR c : C ; VAR e : E ; VAR r : REF_TO A ;\n"
		m.scope.objects, m.scope.refs = []string{"c", "c", "e"}, []string{"r"}
	} else {
		text += " VAR b : B ; VAR t : " + m.one("TON", "TOF", "TP", "CTU", "CTD", "R_TRIG", "F_TRIG") + " ; VAR j : REF_TO I ;\n"
		m.scope.objects, m.scope.blocks, m.scope.faces = []string{"b"}, []string{"t"}, []string{"j"}
	}
	m.room = 14
	return text + m.list(5) + " END_PROGRAM\n"
}
