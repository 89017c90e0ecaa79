package image

import "governor/api"

// Each number, text, list has so many bytes at least.
const least = 4

// reader goes along bytes; wrong tells that they are no image's.
type reader struct {
	bytes []byte
	at    int
	wrong bool
}

func (r *reader) number() int {
	if len(r.bytes)-r.at < least {
		r.wrong = true
	}
	if r.wrong {
		return 0
	}
	n := uint32(0)
	for _, b := range r.bytes[r.at : r.at+least] {
		n = n<<8 | uint32(b)
	}
	r.at += least
	return int(int32(n))
}

// count reads how many items follow, each of so many bytes at least.
func (r *reader) count(size int) int {
	n := r.number()
	if n < 0 || n > api.MaxWords || n > (len(r.bytes)-r.at)/size {
		r.wrong = true
		return 0
	}
	return n
}

func (r *reader) text() string {
	n := r.count(1)
	r.at += n
	return string(r.bytes[r.at-n : r.at])
}

func (r *reader) flag() bool {
	n := r.number()
	if n != 0 && n != 1 {
		r.wrong = true
	}
	return n == 1
}

// several reads how many items there are, and each.
func several[T any](r *reader, one func(*reader) T) []T {
	var all []T
	for range r.count(least) {
		if r.wrong {
			return nil
		}
		all = append(all, one(r))
	}
	return all
}

func (r *reader) numbers() []int {
	return several(r, (*reader).number)
}

func (r *reader) texts() []string {
	return several(r, (*reader).text)
}

// image reads the fields in their order: they are calls in the order in which they stand.
func (r *reader) image() api.Image {
	var im api.Image
	im.Faces = several(r, (*reader).texts)
	im.Classes = several(r, (*reader).class)
	im.Codes = several(r, (*reader).code)
	im.Insts = r.numbers()
	im.Globals = r.text()
	im.Init = r.numbers()
	im.Blocks = r.numbers()
	im.Ins = several(r, (*reader).link)
	im.Outs = several(r, (*reader).link)
	im.Jobs = several(r, (*reader).job)
	im.D = r.number()
	im.W = r.number()
	return im
}

func (r *reader) class() api.Desc {
	return api.Desc{Base: r.number(), Fields: r.text(), Init: r.numbers(), VTable: r.numbers(), Sigs: r.texts(), Tables: several(r, (*reader).table)}
}

func (r *reader) table() api.Table {
	return api.Table{Face: r.number(), Slots: r.numbers()}
}

func (r *reader) code() api.Code {
	return api.Code{Class: r.number(), Params: r.text(), Locals: r.text(), Ret: r.flag(), Stack: r.number(), Ops: several(r, (*reader).op)}
}

func (r *reader) op() api.Op {
	return api.Op{K: r.number(), A: r.number(), B: r.number()}
}

func (r *reader) link() api.Link {
	return api.Link{Global: r.number(), Slot: r.number(), Bool: r.flag()}
}

func (r *reader) job() api.Job {
	return api.Job{Code: r.number(), Every: r.number(), First: r.number()}
}
