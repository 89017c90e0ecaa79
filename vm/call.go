package vm

import "governor/api"

// call runs an instruction that calls.
func (v *VM) call(f *frame, o api.Op) int {
	code := o.A
	switch o.K {
	case api.OpCallV, api.OpCallI:
		return v.callOn(f, o)
	case api.OpThis:
		code = v.classOf(f.self).vtable[o.A]
	}
	v.enter(code, f.self, f.take(len(v.codes[code].Params)))
	return api.Running
}

// callOn calls a method of the instance that lies behind what it is handed.
func (v *VM) callOn(f *frame, o api.Op) int {
	handed := v.faces
	slot, of := o.B, o.A
	if o.K == api.OpCallV {
		slot, of = o.A, o.B
		handed = v.handed
	}
	args := f.take(handed[of][slot])
	self := f.pop()
	if self == 0 {
		return api.NullFault
	}
	c := v.classOf(self)
	methods := c.vtable
	if o.K == api.OpCallI {
		methods = c.tables[of]
	}
	if o.K == api.OpCallV && !c.of[of] || methods == nil {
		return api.CastFault
	}
	v.enter(methods[slot], self, args)
	return api.Running
}

func (v *VM) classOf(self int) *class {
	return &v.classes[v.insts[self-1].class]
}

// cast leaves a reference that is of a class or an interface, as it is.
func (v *VM) cast(f *frame, o api.Op) int {
	self := f.pop()
	if self != 0 && !v.is(self, o) {
		if o.K == api.OpCast {
			return api.CastFault
		}
		self = 0
	}
	f.push(self)
	return api.Running
}

func (v *VM) is(self int, o api.Op) bool {
	c := v.classOf(self)
	if o.A == 0 {
		return c.of[o.B]
	}
	return c.tables[o.B] != nil
}
