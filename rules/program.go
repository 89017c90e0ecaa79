package rules

import (
	"governor/api"
	"governor/typing"
)

// Directions of a program's variable.
const (
	input  = 1
	output = 2
)

func (a *asked) program() int {
	code := firstBroken(rule{api.Kind, a.programKinds}, rule{api.Init, func() bool { return anyVar(a.d.Vars, badInit) }},
		rule{api.Slot, a.slots}, rule{api.Twice, func() bool { return twice(varNames(a.d.Vars)) }})
	if code != api.Fine {
		return code
	}
	return typing.Stmts(a.Unit, api.Where{Decl: a.at, Method: -1}, a.d.Body)
}

func (a *asked) programKinds() bool {
	return anyVar(a.d.Vars, func(v api.Var) bool {
		if v.Dir != 0 && v.Type.Kind != api.Int && v.Type.Kind != api.Bool {
			return true
		}
		return !a.mayBeProgramVar(v.Type) || v.Dir < 0 || v.Dir > output
	})
}

func (a *asked) slots() bool {
	taken := map[int]int{}
	for _, ahead := range a.Unit.Decls[:a.at] {
		if ahead.Kind == api.Program {
			take(taken, ahead.Vars)
		}
	}
	return anyVar(a.d.Vars, func(v api.Var) bool {
		if v.Dir != input && v.Dir != output {
			return false
		}
		if v.Slot < 0 || v.Slot >= api.MaxSlots {
			return true
		}
		if v.Dir == input {
			return false
		}
		taken[v.Slot]++
		return taken[v.Slot] > 1
	})
}

// take counts the slots of outputs.
func take(taken map[int]int, vars []api.Var) {
	for _, v := range vars {
		if v.Dir == output {
			taken[v.Slot]++
		}
	}
}
