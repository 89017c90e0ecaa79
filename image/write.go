package image

import (
	"math"

	"governor/api"
)

// writer gathers bytes; full tells that something has no room in them.
type writer struct {
	bytes []byte
	full  bool
}

func (w *writer) number(n int) {
	if n < math.MinInt32 || n > math.MaxInt32 {
		w.full = true
		return
	}
	u := uint32(n)
	w.bytes = append(w.bytes, byte(u>>24), byte(u>>16), byte(u>>8), byte(u))
}

// count writes how many bytes or items follow.
func (w *writer) count(n int) bool {
	if n > api.MaxWords {
		w.full = true
		return false
	}
	w.number(n)
	return true
}

func (w *writer) text(s string) {
	if w.count(len(s)) {
		w.bytes = append(w.bytes, s...)
	}
}

func (w *writer) flag(so bool) {
	n := 0
	if so {
		n = 1
	}
	w.number(n)
}

// list writes how many items there are, and each.
func list[T any](w *writer, items []T, one func(*writer, T)) {
	if !w.count(len(items)) {
		return
	}
	for _, item := range items {
		if w.full {
			return
		}
		one(w, item)
	}
}

func (w *writer) numbers(all []int) {
	list(w, all, (*writer).number)
}

func (w *writer) image(im api.Image) {
	list(w, im.Faces, func(w *writer, sigs []string) { list(w, sigs, (*writer).text) })
	list(w, im.Classes, (*writer).class)
	list(w, im.Codes, (*writer).code)
	w.numbers(im.Insts)
	w.text(im.Globals)
	w.numbers(im.Init)
	w.numbers(im.Blocks)
	list(w, im.Ins, (*writer).link)
	list(w, im.Outs, (*writer).link)
	list(w, im.Jobs, (*writer).job)
	w.number(im.D)
	w.number(im.W)
}

func (w *writer) class(c api.Desc) {
	w.number(c.Base)
	w.text(c.Fields)
	w.numbers(c.Init)
	w.numbers(c.VTable)
	list(w, c.Sigs, (*writer).text)
	list(w, c.Tables, func(w *writer, t api.Table) {
		w.number(t.Face)
		w.numbers(t.Slots)
	})
}

func (w *writer) code(c api.Code) {
	w.number(c.Class)
	w.text(c.Params)
	w.text(c.Locals)
	w.flag(c.Ret)
	w.number(c.Stack)
	list(w, c.Ops, func(w *writer, o api.Op) {
		w.number(o.K)
		w.number(o.A)
		w.number(o.B)
	})
}

func (w *writer) link(l api.Link) {
	w.number(l.Global)
	w.number(l.Slot)
	w.flag(l.Bool)
}

func (w *writer) job(j api.Job) {
	w.number(j.Code)
	w.number(j.Every)
	w.number(j.First)
}
