package layout

import (
	"slices"
	"strings"

	"governor/api"
	"governor/op"
	"governor/plan"
)

// Of is a unit's image, but for its instructions and what hangs on them.
func Of(u api.Unit) api.Image {
	if len(u.Decls) > api.MaxDecls {
		// No unit that may be: nothing is said of its image, which might be very large.
		return api.Image{}
	}
	l := &layer{Plan: plan.Of(u)}
	for d := range u.Decls {
		switch u.Decls[d].Kind {
		case api.Interface:
			l.face(d)
		case api.Class:
			l.class(d)
		case api.Program:
			l.program(d)
		case api.TaskOf:
			l.task(d)
		}
	}
	for _, w := range l.Bodies {
		l.code(w)
	}
	return l.im
}

// layer lays what it meets into an image.
type layer struct {
	*plan.Plan
	im api.Image
}

func letter(t api.Type) string {
	if t.Kind == api.Ref {
		return "r"
	}
	return "i"
}

// letters are those of variables, and what they are at first.
func letters(vars []api.Var) (string, []int) {
	var text strings.Builder
	var init []int
	for _, v := range vars {
		size := plan.Size(v.Type)
		text.WriteString(strings.Repeat(letter(v.Type), size))
		first := v.Init
		if v.Type.Kind == api.Array || v.Type.Kind == api.Ref {
			first = 0
		}
		init = append(init, slices.Repeat([]int{first}, size)...)
	}
	return text.String(), init
}

func sig(m *api.Method) string {
	params, _ := letters(m.Params)
	return op.Sig(params, m.Result.Kind != api.None)
}

func (l *layer) face(d int) {
	var sigs []string
	for i := range l.Book.Unit.Decls[d].Methods {
		sigs = append(sigs, sig(&l.Book.Unit.Decls[d].Methods[i]))
	}
	l.im.Faces = append(l.im.Faces, sigs)
}

// entry is the code of a class's method; -1, if that is abstract.
func (l *layer) entry(d int, name string) int {
	w, ok := l.Book.Method(d, name)
	if !ok {
		return plan.None
	}
	return l.Code(w)
}

func (l *layer) class(d int) {
	c := api.Desc{Base: l.Class(l.Book.Next(d))}
	c.Fields, c.Init = letters(l.Book.Fields(d))
	for _, name := range l.Slots(d) {
		c.VTable = append(c.VTable, l.entry(d, name))
		w, _ := l.Book.Method(d, name)
		c.Sigs = append(c.Sigs, sig(l.Book.At(w)))
	}
	faces := slices.Clone(l.Book.Faces(d))
	slices.Sort(faces)
	for _, f := range faces {
		t := api.Table{Face: l.Face(f)}
		for _, m := range l.Book.Unit.Decls[f].Methods {
			t.Slots = append(t.Slots, l.entry(d, m.Name))
		}
		c.Tables = append(c.Tables, t)
	}
	l.im.Classes = append(l.im.Classes, c)
}

func (l *layer) program(d int) {
	var plain []api.Var
	for _, v := range l.Book.Unit.Decls[d].Vars {
		switch v.Type.Kind {
		case api.Inst:
			l.im.Insts = append(l.im.Insts, l.Class(l.Book.Find(v.Type.Name)))
		case api.Timer:
			l.im.Blocks = append(l.im.Blocks, v.Type.Lo)
		default:
			plain = append(plain, v)
			l.link(d, v)
		}
	}
	text, init := letters(plain)
	l.im.Globals += text
	l.im.Init = append(l.im.Init, init...)
}

func (l *layer) link(d int, v api.Var) {
	link := api.Link{Global: l.Global(d, v.Name), Slot: v.Slot, Bool: v.Type.Kind == api.Bool}
	switch v.Dir {
	case 1:
		l.im.Ins = append(l.im.Ins, link)
	case 2:
		l.im.Outs = append(l.im.Outs, link)
	}
}

func (l *layer) task(d int) {
	t := &l.Book.Unit.Decls[d]
	code := l.Code(api.Where{Decl: l.Book.Find(t.Base), Method: -1})
	l.im.Jobs = append(l.im.Jobs, api.Job{Code: code, Every: t.Every, First: t.First})
}

func (l *layer) code(w api.Where) {
	c := api.Code{Class: plan.None}
	if l.Book.IsMethod(w) {
		m := l.Book.At(w)
		c.Class = l.Class(w.Decl)
		c.Params, _ = letters(m.Params)
		c.Locals, _ = letters(m.Vars)
		c.Ret = m.Result.Kind != api.None
	}
	l.im.Codes = append(l.im.Codes, c)
}
