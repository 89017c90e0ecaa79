package typing

import "governor/api"

// form is how many Exprs, Blocks and Labels a statement has.
type form struct{ exprs, blocks, labels int }

// shape is the form that a statement should have; false, if it is of no kind.
func shape(s api.Stmt) (form, bool) {
	switch s.Kind {
	case api.Assign, api.Attempt, api.Do:
		return form{exprs: 1}, true
	case api.Put, api.Step:
		return form{exprs: 2}, true
	case api.If:
		n := max(1, len(s.Exprs))
		return form{exprs: n, blocks: n + 1}, true
	case api.Case:
		return form{exprs: 1, blocks: len(s.Labels) + 1, labels: len(s.Labels)}, true
	case api.While:
		return form{exprs: 1, blocks: 1}, true
	case api.For:
		return form{exprs: 2, blocks: 1}, true
	case api.Return:
		return form{exprs: min(1, len(s.Exprs))}, true
	case api.Exit:
		return form{}, true
	}
	return form{}, false
}

func isFormed(s api.Stmt) bool {
	f, ok := shape(s)
	if !ok || f != (form{len(s.Exprs), len(s.Blocks), len(s.Labels)}) {
		return false
	}
	for _, labels := range s.Labels {
		if len(labels) == 0 {
			return false
		}
	}
	return true
}

// first is the first code that is one.
func first(codes ...int) int {
	for _, code := range codes {
		if code != api.Fine {
			return code
		}
	}
	return api.Fine
}

// list tells what is wrong with statements, that may stand within a loop.
func (c *checker) list(l []api.Stmt, looped bool) int {
	for _, s := range l {
		if code := c.stmt(s, looped); code != api.Fine {
			return code
		}
	}
	return api.Fine
}

func (c *checker) stmt(s api.Stmt, looped bool) int {
	if !isFormed(s) {
		return api.Typing
	}
	switch s.Kind {
	case api.Assign:
		return c.assign(s)
	case api.Put:
		_, code := c.find(s.Name, api.Array)
		if code != api.Fine {
			return code
		}
		return c.of(s.Exprs, api.Int, api.Int)
	case api.Attempt:
		_, code := c.find(s.Name, api.Ref)
		if code != api.Fine {
			return code
		}
		return c.of(s.Exprs, api.Ref)
	case api.Do:
		if s.Exprs[0].Kind != api.Invoke {
			return api.Typing
		}
		_, code := c.invoke(s.Exprs[0], true)
		return code
	case api.If:
		return c.choice(s, looped)
	case api.Case:
		return c.cases(s, looped)
	case api.For:
		if code := c.counter(s); code != api.Fine {
			return code
		}
		return c.list(s.Blocks[0], true)
	case api.While:
		if code := c.of(s.Exprs, api.Bool); code != api.Fine {
			return code
		}
		return c.list(s.Blocks[0], true)
	case api.Return:
		return c.answer(s)
	case api.Step:
		_, code := c.find(s.Name, api.Timer)
		if code != api.Fine {
			return code
		}
		return c.of(s.Exprs, api.Bool, api.Int)
	}
	if !looped {
		return api.Typing
	}
	return api.Fine
}

func (c *checker) assign(s api.Stmt) int {
	v, ok := c.vars[s.Name]
	if !ok {
		return api.Unknown
	}
	if v.Dir == 1 {
		return api.Typing
	}
	t, code := c.expr(s.Exprs[0])
	if code != api.Fine {
		return code
	}
	if !fits(c.book, v.Type, t) {
		return api.Typing
	}
	return api.Fine
}

func (c *checker) choice(s api.Stmt, looped bool) int {
	for i := range s.Exprs {
		if code := c.of(s.Exprs[i:i+1], api.Bool); code != api.Fine {
			return code
		}
		if code := c.list(s.Blocks[i], looped); code != api.Fine {
			return code
		}
	}
	return c.list(s.Blocks[len(s.Exprs)], looped)
}

func (c *checker) cases(s api.Stmt, looped bool) int {
	if code := first(c.of(s.Exprs, api.Int), labelled(s.Labels)); code != api.Fine {
		return code
	}
	for _, block := range s.Blocks {
		if code := c.list(block, looped); code != api.Fine {
			return code
		}
	}
	return api.Fine
}

// labelled tells whether labels stand there once, and are numbers that a value may be.
func labelled(labels [][]int) int {
	met := map[int]int{}
	for _, alternative := range labels {
		for _, label := range alternative {
			met[label]++
			if met[label] > 1 || label < api.Lowest || label > api.Highest {
				return api.Twice
			}
		}
	}
	return api.Fine
}

// counter tells what is wrong with the head of a FOR.
func (c *checker) counter(s api.Stmt) int {
	v, code := c.find(s.Name, api.Int)
	if code != api.Fine {
		return code
	}
	if v.Dir == 1 || s.N == 0 {
		return api.Typing
	}
	return c.of(s.Exprs, api.Int, api.Int)
}

func (c *checker) answer(s api.Stmt) int {
	answers := c.method != nil && c.method.Result.Kind != api.None
	if len(s.Exprs) == 0 {
		if answers {
			return api.Typing
		}
		return api.Fine
	}
	t, code := c.expr(s.Exprs[0])
	if code != api.Fine {
		return code
	}
	if !answers || !fits(c.book, c.method.Result, t) {
		return api.Typing
	}
	return api.Fine
}
