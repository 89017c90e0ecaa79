package flow

import (
	"governor/api"
	"governor/op"
)

// effect is what an instruction takes and leaves, and whether its operands are of things that are there.
type effect struct {
	takes, leaves string
	ok            bool
}

func (w *walk) effect(o api.Op) effect {
	switch o.K {
	case api.OpQ, api.OpCV:
		return effect{"", "i", w.isBlock(o.A)}
	case api.OpPush:
		return effect{"", "i", true}
	case api.OpInst:
		return effect{"", "r", o.A >= 1 && o.A <= len(w.im.Insts)}
	case api.OpNull:
		return effect{"", "r", true}
	case api.OpLoad, api.OpLoadG, api.OpLoadF:
		letter, ok := w.room(o.K).letter(o.A)
		return effect{"", letter, ok}
	case api.OpStore, api.OpStoreG, api.OpStoreF:
		letter, ok := w.room(o.K).letter(o.A)
		return effect{letter, "", ok}
	case api.OpGet, api.OpGetG, api.OpGetF:
		return effect{"i", "i", w.room(o.K).numbers(o.A, o.B)}
	case api.OpPut, api.OpPutG, api.OpPutF:
		return effect{"ii", "", w.room(o.K).numbers(o.A, o.B)}
	case api.OpBin:
		return effect{"ii", "i", true}
	case api.OpNeg, api.OpNot, api.OpRange:
		return effect{"i", "i", true}
	case api.OpSame:
		return effect{"rr", "i", true}
	case api.OpFalse:
		return effect{"i", "", true}
	case api.OpStep:
		return effect{"ii", "", w.isBlock(o.A)}
	case api.OpCast, api.OpTry:
		return effect{"r", "r", w.isKind(o)}
	case api.OpJump, api.OpTick:
		return effect{"", "", true}
	}
	return w.call(o)
}

func (w *walk) isBlock(b int) bool {
	return b >= 0 && b < len(w.im.Blocks)
}

// isKind tells whether a cast is to a class, or to an interface, that is there.
func (w *walk) isKind(o api.Op) bool {
	if o.A == 0 {
		return w.isClass(o.B)
	}
	return o.B < len(w.im.Faces)
}

// room is where an instruction finds slots: their letters, and how many numbers stand in a row from each on.
type room struct {
	letters string
	rows    []int
}

func furnish(letters string) *room {
	r := &room{letters, make([]int, len(letters)+1)}
	for i := len(letters) - 1; i >= 0; i-- {
		if letters[i] == 'i' {
			r.rows[i] = r.rows[i+1] + 1
		}
	}
	return r
}

func (w *walk) room(k int) *room {
	switch k {
	case api.OpLoadG, api.OpStoreG, api.OpGetG, api.OpPutG:
		if w.globals == nil {
			w.globals = furnish(w.im.Globals)
		}
		return w.globals
	case api.OpLoadF, api.OpStoreF, api.OpGetF, api.OpPutF:
		if w.fields == nil && w.isClass(w.code.Class) {
			w.fields = furnish(w.im.Classes[w.code.Class].Fields)
		}
		return w.fields
	}
	if w.locals == nil {
		w.locals = furnish(w.code.Params + w.code.Locals)
	}
	return w.locals
}

func (r *room) letter(slot int) (string, bool) {
	if r == nil || slot >= len(r.letters) {
		return "", false
	}
	return r.letters[slot : slot+1], true
}

// numbers tells whether so many slots are there, and hold numbers.
func (r *room) numbers(slot int, size int) bool {
	return r != nil && slot < len(r.letters) && r.rows[slot] >= size
}

// call is the effect of an instruction that calls.
func (w *walk) call(o api.Op) effect {
	sig, on, ok := "", "", false
	switch o.K {
	case api.OpCall:
		sig, ok = w.callee(o.A)
	case api.OpCallV:
		on = "r"
		sig, ok = w.slot(o.B, o.A)
	case api.OpThis:
		sig, ok = w.slot(w.code.Class, o.A)
	case api.OpCallI:
		on = "r"
		if o.A < len(w.im.Faces) && o.B < len(w.im.Faces[o.A]) {
			sig, ok = w.im.Faces[o.A][o.B], true
		}
	}
	params, ret, is := op.Parts(sig)
	if !ok || !is {
		return effect{}
	}
	if ret {
		return effect{on + params, "i", true}
	}
	return effect{on + params, "", true}
}

// callee is the Sig of a code that may be called on the same instance.
func (w *walk) callee(c int) (string, bool) {
	if c >= len(w.im.Codes) || w.bases[w.im.Codes[c].Class] == 0 {
		return "", false
	}
	return op.Sig(w.im.Codes[c].Params, w.im.Codes[c].Ret), true
}

// slot is the Sig of a class's slot; the class is to have one for each of its Sigs.
func (w *walk) slot(class int, slot int) (string, bool) {
	if !w.isClass(class) {
		return "", false
	}
	c := &w.im.Classes[class]
	if slot >= len(c.Sigs) || len(c.VTable) < len(c.Sigs) {
		return "", false
	}
	return c.Sigs[slot], true
}
