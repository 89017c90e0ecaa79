package vm

import (
	"governor/api"
	"governor/block"
	"governor/word"
)

// enter begins a code on an instance.
func (v *VM) enter(code int, self int, args []int) {
	c := &v.codes[code]
	f := frame{code: c, self: self, slots: make([]int, len(c.Params)+len(c.Locals)), stack: make([]int, 0, c.Stack)}
	copy(f.slots, args)
	v.frames = append(v.frames, f)
}

func (f *frame) push(n int) {
	f.stack = append(f.stack, n)
}

func (f *frame) pop() int {
	n := f.stack[len(f.stack)-1]
	f.stack = f.stack[:len(f.stack)-1]
	return n
}

// take pops so many words; they are in the order in which they were pushed.
func (f *frame) take(n int) []int {
	taken := f.stack[len(f.stack)-n:]
	f.stack = f.stack[:len(f.stack)-n]
	return taken
}

func truth(so bool) int {
	if so {
		return 1
	}
	return 0
}

// room is where an instruction finds slots.
func (v *VM) room(f *frame, k int) []int {
	switch k {
	case api.OpLoadG, api.OpStoreG, api.OpGetG, api.OpPutG:
		return v.globals
	case api.OpLoadF, api.OpStoreF, api.OpGetF, api.OpPutF:
		return v.insts[f.self-1].fields
	}
	return f.slots
}

// next runs the instruction that stands next, and tells its fault.
func (v *VM) next() int {
	f := &v.frames[len(v.frames)-1]
	o := f.code.Ops[f.at]
	f.at++
	switch o.K {
	case api.OpPush, api.OpNull, api.OpInst:
		f.push(o.A)
	case api.OpLoad, api.OpLoadG, api.OpLoadF:
		f.push(v.room(f, o.K)[o.A])
	case api.OpStore, api.OpStoreG, api.OpStoreF:
		v.room(f, o.K)[o.A] = f.pop()
	case api.OpGet, api.OpGetG, api.OpGetF, api.OpPut, api.OpPutG, api.OpPutF:
		return v.array(f, o)
	case api.OpFalse:
		if f.pop() != 0 {
			break
		}
		fallthrough
	case api.OpJump:
		f.at = o.A
	case api.OpCall, api.OpThis, api.OpCallV, api.OpCallI:
		return v.call(f, o)
	case api.OpCast, api.OpTry:
		return v.cast(f, o)
	case api.OpRetV:
		n := f.pop()
		v.leave()
		v.frames[len(v.frames)-1].push(n)
	case api.OpRet:
		v.leave()
	case api.OpStep, api.OpQ, api.OpCV:
		v.block(f, o)
	case api.OpPop:
		f.pop()
	case api.OpTick:
		v.used += o.A
	default:
		return f.reckon(o)
	}
	return api.Running
}

func (v *VM) leave() {
	v.frames = v.frames[:len(v.frames)-1]
}

// reckon runs an instruction that needs no more than the stack.
func (f *frame) reckon(o api.Op) int {
	b := f.pop()
	switch o.K {
	case api.OpNeg:
		f.push(word.Neg(b))
	case api.OpNot:
		f.push(word.Not(b))
	case api.OpSame:
		f.push(truth((f.pop() == b) == (o.A == 0)))
	case api.OpRange:
		if b < o.A || b > o.B {
			return api.RangeOut
		}
		f.push(b)
	case api.OpBin:
		n, ok := word.Do(o.A, f.pop(), b)
		if !ok {
			return api.DivZero
		}
		f.push(n)
	}
	return api.Running
}

func (v *VM) array(f *frame, o api.Op) int {
	room := v.room(f, o.K)
	value, puts := 0, false
	switch o.K {
	case api.OpPut, api.OpPutG, api.OpPutF:
		value, puts = f.pop(), true
	}
	at := f.pop()
	if at < 0 || at >= o.B {
		return api.IndexOut
	}
	if puts {
		room[o.A+at] = value
	} else {
		f.push(room[o.A+at])
	}
	return api.Running
}

func (v *VM) block(f *frame, o api.Op) {
	b := &v.blocks[o.A]
	switch o.K {
	case api.OpStep:
		pt := f.pop()
		*b = block.Step(*b, f.pop() != 0, pt, v.dt)
	case api.OpQ:
		f.push(truth(b.Q))
	case api.OpCV:
		f.push(b.CV)
	}
}
