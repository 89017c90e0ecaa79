package flow

import (
	"math"
	"strings"
	"testing"

	"governor/api"
)

// world has classes 0 A (base none), 1 B of A, 2 C; codes 0 and 1 of A, 2 of C, 3 of B, 4 of none, 5 of A with a wrong Sig, 6 of a class that is not there.
func world(code api.Code) (api.Image, int) {
	im := api.Image{
		Faces: [][]string{{"ir>i", ">"}, {"iiii>", "x>"}},
		Classes: []api.Desc{
			{Base: -1, Fields: "ir", Init: []int{0, 0}, VTable: []int{0, 1}, Sigs: []string{"ri>i", ">"}},
			{Base: 0, Fields: "irii", Init: []int{0, 0, 0, 0}, VTable: []int{0, 1, 3}, Sigs: []string{"ri>i", ">", "bad"}},
			{Base: -1}},
		Codes: []api.Code{{Class: 0, Params: "ri", Ret: true}, {Class: 0}, {Class: 2}, {Class: 1, Params: "r"}, {Class: -1}, {Class: 0, Params: "iiii"}, {Class: 9}},
		Insts: []int{0, 1}, Globals: "iiirri", Init: make([]int, 6), Blocks: []int{api.TON, api.CTU},
	}
	im.Codes = append(im.Codes, code)
	return im, len(im.Codes) - 1
}

func mk(k int, ab ...int) api.Op {
	o := api.Op{K: k}
	if len(ab) > 0 {
		o.A = ab[0]
	}
	if len(ab) > 1 {
		o.B = ab[1]
	}
	return o
}

var (
	push = mk(api.OpPush, 1)
	null = mk(api.OpNull)
	ret  = mk(api.OpRet)
	retv = mk(api.OpRetV)
	pop  = mk(api.OpPop)
)

// check checks a code of B with two params, r and i, and locals iir.
func check(class int, ret bool, ops ...api.Op) (int, bool) {
	im, c := world(api.Code{Class: class, Params: "ri", Locals: "iir", Ret: ret, Ops: ops})
	return Check(im, c)
}

func TestEffects(t *testing.T) {
	for _, c := range []struct {
		o             api.Op
		takes, leaves string
	}{
		{push, "", "i"}, {mk(api.OpQ, 1), "", "i"}, {mk(api.OpCV, 0), "", "i"}, {null, "", "r"}, {mk(api.OpInst, 1), "", "r"}, {mk(api.OpInst, 2), "", "r"},
		{mk(api.OpLoad, 0), "", "r"}, {mk(api.OpLoad, 1), "", "i"}, {mk(api.OpLoad, 4), "", "r"}, {mk(api.OpLoadG, 3), "", "r"}, {mk(api.OpLoadG, 5), "", "i"}, {mk(api.OpLoadF, 1), "", "r"}, {mk(api.OpLoadF, 3), "", "i"},
		{mk(api.OpStore, 0), "r", ""}, {mk(api.OpStore, 2), "i", ""}, {mk(api.OpStoreG, 4), "r", ""}, {mk(api.OpStoreG, 0), "i", ""}, {mk(api.OpStoreF, 0), "i", ""}, {mk(api.OpStoreF, 1), "r", ""},
		{mk(api.OpGet, 1, 3), "i", "i"}, {mk(api.OpGetG, 0, 3), "i", "i"}, {mk(api.OpGetF, 2, 2), "i", "i"}, {mk(api.OpPut, 1, 1), "ii", ""}, {mk(api.OpPutG, 5, 1), "ii", ""}, {mk(api.OpPutF, 0, 1), "ii", ""},
		{mk(api.OpBin, 14), "ii", "i"}, {mk(api.OpNeg), "i", "i"}, {mk(api.OpNot), "i", "i"}, {mk(api.OpRange, 1, 2), "i", "i"}, {mk(api.OpSame, 1), "rr", "i"}, {mk(api.OpSame, 0), "rr", "i"},
		{mk(api.OpCall, 0), "ri", "i"}, {mk(api.OpCall, 1), "", ""}, {mk(api.OpCall, 3), "r", ""}, {mk(api.OpThis, 0), "ri", "i"}, {mk(api.OpThis, 1), "", ""}, {mk(api.OpCallV, 0, 0), "rri", "i"}, {mk(api.OpCallV, 1, 1), "r", ""}, {mk(api.OpCallI, 0, 0), "rir", "i"}, {mk(api.OpCallI, 0, 1), "r", ""},
		{mk(api.OpCast, 0, 2), "r", "r"}, {mk(api.OpCast, 1, 1), "r", "r"}, {mk(api.OpTry, 0, 0), "r", "r"}, {mk(api.OpTry, 1, 0), "r", "r"}, {mk(api.OpStep, 1), "ii", ""}, {mk(api.OpTick, 1), "", ""}, {pop, "i", ""}, {pop, "r", ""},
	} {
		lay := func(takes string, under string) []api.Op {
			var ops []api.Op
			for _, letter := range under + takes {
				ops = append(ops, map[rune]api.Op{'i': push, 'r': null}[letter])
			}
			return ops
		}
		// Between two numbers and their end: what is left must be just what it leaves.
		ops := append(lay(c.takes, "r"), c.o)
		for i := len(c.leaves) - 1; i >= 0; i-- {
			ops = append(ops, map[byte]api.Op{'i': mk(api.OpStore, 2), 'r': mk(api.OpStore, 0)}[c.leaves[i]])
		}
		ops = append(ops, mk(api.OpStore, 4), ret)
		high := max(1+len(c.takes), 1+len(c.leaves))
		if got, ok := check(1, false, ops...); !ok || got != high {
			t.Errorf("P18.1: %v: %d, %v, want %d", c.o, got, ok, high)
		}
		for i := range c.takes {
			if _, ok := check(1, false, append(lay(c.takes[i+1:], ""), c.o, ret)...); ok {
				t.Errorf("P18.1: %v takes too little", c.o)
			}
			other := []byte(c.takes)
			other[i] ^= 'i' ^ 'r'
			if _, ok := check(1, false, append(lay(string(other), "r"), ops[1+len(c.takes):]...)...); ok && c.o.K != api.OpPop {
				t.Errorf("P18.1: %v takes %s", c.o, other)
			}
		}
	}
}

func TestOperandsThatAreNone(t *testing.T) {
	i, r := []api.Op{push, push, push}, []api.Op{null, null, null}
	for _, o := range []api.Op{mk(api.OpQ, 2), mk(api.OpCV, 2), mk(api.OpStep, 2), mk(api.OpInst, 0), mk(api.OpInst, 3), mk(api.OpLoad, 5), mk(api.OpLoadG, 6), mk(api.OpLoadF, 4), mk(api.OpStore, 5), mk(api.OpStoreG, 6), mk(api.OpStoreF, 4),
		mk(api.OpGet, 0, 1), mk(api.OpGet, 1, 4), mk(api.OpGetG, 2, 2), mk(api.OpGetG, 5, 2), mk(api.OpGetF, 0, 2), mk(api.OpGetF, 3, 2), mk(api.OpPut, 4, 1), mk(api.OpPutG, 3, 1), mk(api.OpPutF, 1, 1),
		mk(api.OpCall, 2), mk(api.OpCall, 4), mk(api.OpCall, 5), mk(api.OpCall, 6), mk(api.OpCall, 8), mk(api.OpCall, 99), mk(api.OpGet, 5, 1), mk(api.OpGetG, 6, 1), mk(api.OpGetF, 4, 1), mk(api.OpThis, 2), mk(api.OpThis, 3), mk(api.OpCallV, 2, 1), mk(api.OpCallV, 2, 0), mk(api.OpCallV, 0, 2), mk(api.OpCallV, 0, 3), mk(api.OpCallI, 0, 2), mk(api.OpCallI, 2, 0), mk(api.OpCallI, 1, 0), mk(api.OpCallI, 1, 1),
		mk(api.OpCast, 0, 3), mk(api.OpCast, 1, 2), mk(api.OpTry, 0, 3), mk(api.OpTry, 1, 2), mk(api.OpTry, 2, 0),
		{K: 0}, {K: 36}, {K: -1}, mk(api.OpPush, 32768), mk(api.OpNull, 1), mk(api.OpTick, 0), mk(api.OpBin, 15), mk(api.OpLoad, -1), mk(api.OpLoad, 0, 1), mk(api.OpGet, 1, 0)} {
		for _, before := range [][]api.Op{i, r, nil} {
			// An endless loop behind it: only the instruction itself can be wrong.
			ops := append(append([]api.Op{}, before...), o, mk(api.OpJump, len(before)+1))
			if got, ok := check(1, false, ops...); ok || got != 0 {
				t.Errorf("P18.1: %v: %d, %v", o, got, ok)
			}
		}
	}
	for _, o := range []api.Op{mk(api.OpLoadF, 0), mk(api.OpThis, 1), mk(api.OpCall, 1)} {
		for class, want := range map[int]bool{-1: false, 0: true, 1: true, 2: false, 3: false, 99: false} {
			if _, ok := check(class, false, o, mk(api.OpJump, 1)); ok != want {
				t.Errorf("P18.1: %v of class %d: %v", o, class, ok)
			}
		}
	}
	// A class is to have a slot for each of its Sigs.
	im, c := world(api.Code{Class: 1, Ops: []api.Op{mk(api.OpThis, 1), ret}})
	if _, ok := Check(im, c); !ok {
		t.Error("P18.1: a slot")
	}
	im.Classes[1].VTable = im.Classes[1].VTable[:2]
	if _, ok := Check(im, c); ok {
		t.Error("P18.1: a class with a slot too few")
	}
	// What comes of A may call A's; what A is may not call B's.
	if _, ok := check(0, false, null, mk(api.OpCall, 3), ret); ok {
		t.Error("P18.1: a call of an heir's code")
	}
}

func TestWays(t *testing.T) {
	f := func(a int) api.Op { return mk(api.OpFalse, a) }
	j := func(a int) api.Op { return mk(api.OpJump, a) }
	for i, c := range []struct {
		ret  bool
		ops  []api.Op
		high int
		ok   bool
	}{
		{true, []api.Op{push, retv}, 1, true}, {false, []api.Op{ret}, 0, true}, {true, []api.Op{ret}, 0, false}, {false, []api.Op{push, retv}, 0, false}, {true, []api.Op{null, retv}, 0, false}, {true, []api.Op{push, push, retv}, 0, false}, {true, []api.Op{retv}, 0, false}, {false, []api.Op{push, ret}, 0, false}, {false, []api.Op{null, ret}, 0, false},
		{false, nil, 0, false}, {false, []api.Op{push}, 0, false}, {false, []api.Op{push, pop}, 0, false}, {false, []api.Op{j(0)}, 0, true}, {false, []api.Op{j(1)}, 0, false}, {false, []api.Op{j(2), ret, ret}, 0, true}, {false, []api.Op{push, f(0)}, 0, false}, {false, []api.Op{push, f(3), ret}, 0, false}, {false, []api.Op{push, f(2), ret}, 1, true}, {false, []api.Op{f(1), ret}, 0, false}, {false, []api.Op{null, f(2), ret}, 0, false},
		// An instruction that no way leads to is passed over, whatever it is.
		{false, []api.Op{ret, {K: 99}, retv, pop, j(77)}, 0, true}, {false, []api.Op{j(2), {K: -5}, ret, pop}, 0, true},
		// The same stack on each way.
		{false, []api.Op{push, push, f(4), pop, ret}, 0, false}, {false, []api.Op{push, f(4), push, j(5), push, pop, ret}, 1, true}, {false, []api.Op{push, f(4), push, j(5), null, pop, ret}, 0, false}, {false, []api.Op{push, j(0)}, 0, false}, {false, []api.Op{push, pop, j(0)}, 1, true}, {false, []api.Op{push, push, push, pop, pop, f(0), ret}, 3, true}, {false, []api.Op{push, null, push, f(1), ret}, 0, false},
		{false, []api.Op{push, f(5), push, null, j(7), push, null, pop, pop, ret}, 2, true}, {false, []api.Op{push, f(5), push, null, j(7), null, push, pop, pop, ret}, 0, false},
	} {
		if got, ok := check(1, c.ret, c.ops...); got != c.high || ok != c.ok {
			t.Errorf("P18.1: the %d-th: %d, %v, want %d, %v", i, got, ok, c.high, c.ok)
		}
	}
	im, _ := world(api.Code{})
	for _, c := range []int{-1, 8, 99, math.MaxInt, math.MinInt} {
		if got, ok := Check(im, c); got != 0 || ok {
			t.Errorf("P18.1: code %d: %d, %v", c, got, ok)
		}
	}
}

func TestHigh(t *testing.T) {
	grow := func(n int) []api.Op {
		var ops []api.Op
		for range n {
			ops = append(ops, push)
		}
		return append(ops, mk(api.OpJump, len(ops)))
	}
	for n, want := range map[int]bool{9999: true, 10000: true, 10001: false} {
		ops := grow(n)
		if n > 9999 {
			ops[len(ops)-1].A = 0
			ops = append(grow(n)[:n], mk(api.OpTick, 1))
			ops = append(ops, mk(api.OpBin, 1))
			for range n - 2 {
				ops = append(ops, mk(api.OpBin, 1))
			}
			ops = append(ops, retv)
		}
		if got, ok := check(1, n > 9999, ops...); ok != want || ok && got != n {
			t.Errorf("P18.1: %d high: %d, %v", n, got, ok)
		}
	}
}

func TestOddImages(t *testing.T) {
	// Bases that lead round, and classes and codes that are not there.
	im := api.Image{Classes: []api.Desc{{Base: 1, Fields: "i"}, {Base: 0, Fields: "r"}}, Codes: []api.Code{{Class: 0, Ops: []api.Op{mk(api.OpCall, 1), ret}}, {Class: 1}}}
	if _, ok := Check(im, 0); !ok {
		t.Error("P18.1: a ring of bases")
	}
	im.Classes[0].Base = 7
	if _, ok := Check(im, 0); ok {
		t.Error("P18.1: a class that is not there")
	}
	im.Classes[0].Base = math.MinInt
	if _, ok := Check(im, 0); ok {
		t.Error("P18.1: a class that is not there")
	}
	ways := make([]api.Op, 0, 10000)
	for i := range 3333 {
		ways = append(ways, push, mk(api.OpFalse, 3*i+3), mk(api.OpTick, 1))
	}
	if got, ok := Check(api.Image{Codes: []api.Code{{Class: -1, Ops: append(ways, ret)}}}, 0); got != 1 || !ok {
		t.Errorf("P18.1: many ways: %d, %v", got, ok)
	}
}

func TestLargeImages(t *testing.T) {
	// Each instruction asks for an array of all globals.
	im := api.Image{Globals: strings.Repeat("i", api.MaxWords), Codes: []api.Code{{Class: -1}}}
	for range 4999 {
		im.Codes[0].Ops = append(im.Codes[0].Ops, mk(api.OpPush, 1), mk(api.OpGetG, 0, api.MaxWords))
	}
	im.Codes[0].Ops = append(im.Codes[0].Ops, mk(api.OpJump, 9998))
	for range 100 {
		if got, ok := Check(im, 0); got != 4999 || !ok {
			t.Fatalf("P18.1: %d, %v", got, ok)
		}
	}
}
