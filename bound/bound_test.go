package bound

import (
	"math"
	"slices"
	"testing"

	"governor/api"
)

func code(class int, stack int, ops ...api.Op) api.Code {
	return api.Code{Class: class, Params: "i", Locals: "ir", Stack: stack, Ops: ops}
}

func call(c int) api.Op                { return api.Op{K: api.OpCall, A: c} }
func this(slot int) api.Op             { return api.Op{K: api.OpThis, A: slot} }
func callV(slot int, class int) api.Op { return api.Op{K: api.OpCallV, A: slot, B: class} }
func callI(face int, slot int) api.Op  { return api.Op{K: api.OpCallI, A: face, B: slot} }

func TestCalls(t *testing.T) {
	// 0 A, 1 B of A, 2 C of B, 3 D; classes 4 and 5 are a ring, 6 comes of none that is there.
	classes := []api.Desc{
		{Base: -1, VTable: []int{0, -1}, Tables: []api.Table{{Face: 2, Slots: []int{5, 4}}}},
		{Base: 0, VTable: []int{1, 2, 99}},
		{Base: 1, VTable: []int{1, 3, 4}, Tables: []api.Table{{Face: 1, Slots: []int{6}}, {Face: 2, Slots: []int{-1, 3}}, {Face: 2, Slots: []int{2}}}},
		{Base: -1, VTable: []int{5}},
		{Base: 5, VTable: []int{7}}, {Base: 4, VTable: []int{6}}, {Base: 7, VTable: []int{3}},
	}
	for i, c := range []struct {
		class int
		ops   []api.Op
		want  []int
	}{
		{0, nil, nil}, {0, []api.Op{call(3), call(1), call(3), call(-1), call(99), call(8)}, []int{1, 3, 8}},
		{0, []api.Op{{K: api.OpPush, A: 1}, call(3), {K: api.OpPop}, call(2)}, []int{2, 3}},
		{0, []api.Op{this(0)}, []int{0, 1}}, {1, []api.Op{this(0)}, []int{1}}, {0, []api.Op{this(1)}, []int{2, 3}}, {1, []api.Op{this(2)}, []int{4}}, {2, []api.Op{this(1), this(9), this(-1)}, []int{3}}, {-1, []api.Op{this(0)}, nil}, {77, []api.Op{this(0)}, nil},
		{-1, []api.Op{callV(0, 0)}, []int{0, 1}}, {-1, []api.Op{callV(0, 3), callV(1, 2)}, []int{3, 5}}, {-1, []api.Op{callV(0, -1), callV(0, 7), callV(0, 77), callV(-1, 0)}, nil}, {-1, []api.Op{callV(0, 4)}, []int{6, 7}}, {-1, []api.Op{callV(0, 5)}, []int{6, 7}},
		{-1, []api.Op{callI(2, 0)}, []int{2, 5}}, {-1, []api.Op{callI(2, 1)}, []int{3, 4}}, {-1, []api.Op{callI(1, 0)}, []int{6}}, {-1, []api.Op{callI(0, 0), callI(-1, 0), callI(2, 9), callI(2, -1)}, nil},
		{0, []api.Op{call(7), this(0), callV(0, 3), callI(2, 1), {K: 99, A: 1}, {K: api.OpJump, A: 1}}, []int{0, 1, 3, 4, 5, 7}},
	} {
		im := api.Image{Classes: classes, Codes: make([]api.Code, 9)}
		im.Codes[8] = code(c.class, 0, c.ops...)
		if got := Calls(im, 8); !slices.Equal(got, c.want) {
			t.Errorf("P19.1: Calls, the %d-th: %v, want %v", i, got, c.want)
		}
	}
	for _, c := range []int{-1, 1, math.MaxInt, math.MinInt} {
		if Calls(api.Image{Codes: make([]api.Code, 1)}, c) != nil {
			t.Errorf("P19.1: Calls of %d", c)
		}
	}
}

func TestOf(t *testing.T) {
	for i, c := range []struct {
		codes []api.Code
		d, w  int
		ok    bool
	}{
		{nil, 0, 0, true}, {[]api.Code{code(0, 9)}, 0, 0, true}, {[]api.Code{code(-1, 4)}, 1, 7, true},
		{[]api.Code{code(-1, 4, call(1)), code(0, 5, call(2)), code(0, 1)}, 3, 19, true},
		// The deepest way need not be the widest one; a code is met on several ways.
		{[]api.Code{code(-1, 1, call(1), call(3)), code(0, 1, call(2)), code(0, 1), code(0, 90, call(2))}, 3, 4 + 93 + 4, true},
		{[]api.Code{code(-1, 1, call(1), call(2)), code(0, 1, call(2)), code(0, 1, call(3)), code(0, 1)}, 4, 16, true},
		{[]api.Code{code(-1, 1), code(0, 1, call(1)), code(-1, 5)}, 1, 8, true},
		{[]api.Code{code(-1, 1, call(1)), code(0, 1, call(1))}, 0, 0, false}, {[]api.Code{code(-1, 1, call(1)), code(0, 1, call(2)), code(0, 0, call(1))}, 0, 0, false}, {[]api.Code{code(-1, 1, call(0))}, 0, 0, false}, {[]api.Code{code(-1, 1), code(-1, 1, call(2)), code(0, 0, call(1))}, 0, 0, false},
		// A way may end anywhere, also ahead of its first code.
		{[]api.Code{code(-1, -50)}, 1, 0, true}, {[]api.Code{code(-1, 1, call(1)), code(0, -50, call(2)), code(0, 20)}, 3, 4, true}, {[]api.Code{code(-1, 1, call(1)), code(0, -10, call(2)), code(0, 20)}, 3, 20, true}, {[]api.Code{code(-1, -20, call(1)), code(0, 10)}, 2, 0, true},
	} {
		d, w, ok := Of(api.Image{Codes: c.codes})
		if d != c.d || w != c.w || ok != c.ok {
			t.Errorf("P19.1: the %d-th: %d, %d, %v, want %d, %d, %v", i, d, w, ok, c.d, c.w, c.ok)
		}
	}
	// A ring of calls over what may override.
	im := api.Image{Classes: []api.Desc{{Base: -1, VTable: []int{1, 2}}, {Base: 0, VTable: []int{3, 2}}}, Codes: []api.Code{code(-1, 0, callV(1, 0)), code(0, 0), code(0, 0, this(0)), code(1, 0)}}
	if d, _, ok := Of(im); d != 3 || !ok {
		t.Errorf("P19.1: %d, %v", d, ok)
	}
	im.Codes[3].Ops = []api.Op{this(1)}
	if _, _, ok := Of(im); ok {
		t.Error("P19.1: a ring over an heir")
	}
}

func TestLargeImages(t *testing.T) {
	var im api.Image
	for i := range 10000 {
		im.Classes = append(im.Classes, api.Desc{Base: i - 1, VTable: []int{i + 1}})
		im.Codes = append(im.Codes, code(-1, 0, call(i+1), call(i+2), callV(0, i)))
	}
	if got := Calls(im, 0); len(got) != 9999 {
		t.Errorf("R1: %d", len(got))
	}
	im.Classes = nil
	if d, w, ok := Of(im); d != 10000 || w != 30000 || !ok {
		t.Errorf("R1: %d, %d, %v", d, w, ok)
	}
}

func TestManyCallsOfManyClasses(t *testing.T) {
	var im api.Image
	for i := range 10000 {
		im.Classes = append(im.Classes, api.Desc{Base: i - 1, VTable: []int{i + 1}})
	}
	im.Codes = make([]api.Code, 10000)
	im.Codes[0].Class = -1
	for i := range 10000 {
		im.Codes[0].Ops = append(im.Codes[0].Ops, callV(0, i))
	}
	if got := Calls(im, 0); len(got) != 9999 || got[0] != 1 || got[9998] != 9999 {
		t.Errorf("R1: %d", len(got))
	}
}
