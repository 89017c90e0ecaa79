package vm

import (
	"testing"

	"governor/api"
	"governor/bound"
	"governor/diag"
	"governor/flow"
)

// world is an image with classes 0 A, 1 B of A, 2 C; codes 0 A.M, 1 A.N, 2 B.M, 3 C.M, 4 the program; instances 1 of A, 2 of B, 3 of C.
// M is handed i and answers: of A its field 0 and that, of B its field 2 and that, of C 5. N stores what it is handed into field 0.
func world(locals string, ops ...api.Op) api.Image {
	add := mk(api.OpBin, api.Add)
	im := api.Image{
		Faces: [][]string{{"i>i"}, {"i>", "i>i"}, {"r>"}},
		Classes: []api.Desc{
			{Base: -1, Fields: "ir", Init: []int{10, 0}, VTable: []int{0, 1}, Sigs: []string{"i>i", "i>"}, Tables: []api.Table{{Face: 1, Slots: []int{1, 0}}}},
			{Base: 0, Fields: "iriii", Init: []int{20, 0, 30, 0, 7}, VTable: []int{2, 1}, Sigs: []string{"i>i", "i>"}, Tables: []api.Table{{Face: 0, Slots: []int{2}}, {Face: 1, Slots: []int{1, 2}}}},
			{Base: -1, VTable: []int{3}, Sigs: []string{"i>i"}}},
		Codes: []api.Code{
			{Class: 0, Params: "i", Ret: true, Ops: []api.Op{mk(api.OpLoadF, 0), mk(api.OpLoad, 0), add, mk(api.OpRetV)}},
			{Class: 0, Params: "i", Ops: []api.Op{mk(api.OpLoad, 0), mk(api.OpStoreF, 0), mk(api.OpRet)}},
			{Class: 1, Params: "i", Ret: true, Locals: "i", Ops: []api.Op{mk(api.OpLoad, 0), mk(api.OpThis, 1), mk(api.OpLoadF, 2), mk(api.OpLoad, 0), mk(api.OpCall, 0), add, mk(api.OpLoad, 1), add, mk(api.OpRetV)}},
			{Class: 2, Params: "i", Ret: true, Ops: []api.Op{mk(api.OpPush, 5), mk(api.OpRetV)}},
			{Class: -1, Locals: locals, Ops: append(ops, mk(api.OpRet))}},
		Insts: []int{0, 1, 2}, Globals: "iriiii", Init: []int{3, 0, 4, 5, 6, 7}, Blocks: []int{api.TON, api.CTU},
		Ins:  []api.Link{{Global: 4, Slot: 0}, {Global: 5, Slot: 1, Bool: true}, {Global: 4, Slot: 2}},
		Jobs: []api.Job{{Code: 4, Every: 1}},
	}
	for i := range im.Codes {
		im.Codes[i].Stack, _ = flow.Check(im, i)
	}
	im.D, im.W, _ = bound.Of(im)
	return im
}

func mk(k int, ab ...int) api.Op {
	o := api.Op{K: k}
	if len(ab) > 0 {
		o.A = ab[0]
	}
	if len(ab) > 1 {
		o.B = ab[1]
	}
	return o
}

func push(n int) api.Op { return mk(api.OpPush, n) }

func open(t *testing.T, im api.Image) *VM {
	t.Helper()
	v, err := New(im)
	if err != nil {
		t.Fatalf("%v: %v", err, im.Codes[len(im.Codes)-1])
	}
	return v
}

// value runs instructions that leave a number; it goes to global 0.
func value(t *testing.T, ops ...api.Op) (int, int) {
	t.Helper()
	v := open(t, world("iiir", append(ops, mk(api.OpStoreG, 0))...))
	fault, _ := v.Run(4, nil, 3, 4000)
	n, _ := v.Global(0)
	return n, fault
}

func TestValues(t *testing.T) {
	const ran = api.Running
	load, store, get, put := func(a int) api.Op { return mk(api.OpLoad, a) }, func(a int) api.Op { return mk(api.OpStore, a) }, mk(api.OpGet, 0, 3), mk(api.OpPut, 0, 3)
	loadG, inst, null := func(a int) api.Op { return mk(api.OpLoadG, a) }, func(a int) api.Op { return mk(api.OpInst, a) }, mk(api.OpNull)
	same, other := mk(api.OpSame, 0), mk(api.OpSame, 1)
	for i, c := range []struct {
		ops      []api.Op
		n, fault int
	}{
		{[]api.Op{push(-9)}, -9, ran}, {[]api.Op{load(1)}, 0, ran}, {[]api.Op{push(4), store(2), load(2)}, 4, ran}, {[]api.Op{loadG(3)}, 5, ran}, {[]api.Op{push(8), mk(api.OpStoreG, 3), loadG(3)}, 8, ran},
		{[]api.Op{push(1), push(9), put, push(1), get}, 9, ran}, {[]api.Op{push(3), get}, 3, api.IndexOut}, {[]api.Op{push(-1), get}, 3, api.IndexOut}, {[]api.Op{push(3), push(0), put, push(1)}, 3, api.IndexOut}, {[]api.Op{push(-1), push(0), put, push(1)}, 3, api.IndexOut}, {[]api.Op{push(2), mk(api.OpGetG, 2, 4)}, 0, ran}, {[]api.Op{push(1), push(77), mk(api.OpPutG, 2, 4), loadG(3)}, 77, ran}, {[]api.Op{push(1), mk(api.OpGetG, 2, 1)}, 3, api.IndexOut},
		{[]api.Op{push(7), push(2), mk(api.OpBin, api.Sub)}, 5, ran}, {[]api.Op{push(7), push(2), mk(api.OpBin, api.Gt)}, 1, ran}, {[]api.Op{push(7), push(0), mk(api.OpBin, api.Div)}, 3, api.DivZero}, {[]api.Op{push(7), push(0), mk(api.OpBin, api.Mod)}, 3, api.DivZero}, {[]api.Op{push(32767), push(2), mk(api.OpBin, api.Add)}, -32767, ran},
		{[]api.Op{push(-32768), mk(api.OpNeg)}, -32768, ran}, {[]api.Op{push(5), mk(api.OpNot)}, 0, ran}, {[]api.Op{push(0), mk(api.OpNot)}, 1, ran},
		{[]api.Op{null, null, same}, 1, ran}, {[]api.Op{inst(1), null, same}, 0, ran}, {[]api.Op{inst(2), inst(2), same}, 1, ran}, {[]api.Op{inst(2), inst(1), other}, 1, ran}, {[]api.Op{inst(2), inst(2), other}, 0, ran},
		{[]api.Op{push(5), mk(api.OpRange, 5, 9)}, 5, ran}, {[]api.Op{push(9), mk(api.OpRange, 5, 9)}, 9, ran}, {[]api.Op{push(4), mk(api.OpRange, 5, 9)}, 3, api.RangeOut}, {[]api.Op{push(10), mk(api.OpRange, 5, 9)}, 3, api.RangeOut},
		{[]api.Op{push(0), mk(api.OpFalse, 4), push(1), mk(api.OpJump, 5), push(2)}, 2, ran}, {[]api.Op{push(-1), mk(api.OpFalse, 4), push(1), mk(api.OpJump, 5), push(2)}, 1, ran},
		{[]api.Op{inst(1), push(4), mk(api.OpCallV, 0, 0)}, 14, ran}, {[]api.Op{inst(2), push(4), mk(api.OpCallV, 0, 0)}, 38, ran}, {[]api.Op{inst(2), push(4), mk(api.OpCallV, 0, 1)}, 38, ran}, {[]api.Op{null, push(4), mk(api.OpCallV, 0, 0)}, 3, api.NullFault}, {[]api.Op{inst(1), push(4), mk(api.OpCallV, 0, 1)}, 3, api.CastFault}, {[]api.Op{inst(3), push(4), mk(api.OpCallV, 0, 0)}, 3, api.CastFault}, {[]api.Op{inst(3), push(4), mk(api.OpCallV, 0, 2)}, 5, ran},
		{[]api.Op{inst(2), push(4), mk(api.OpCallI, 0, 0)}, 38, ran}, {[]api.Op{inst(1), push(4), mk(api.OpCallI, 1, 1)}, 14, ran}, {[]api.Op{inst(1), push(4), mk(api.OpCallI, 0, 0)}, 3, api.CastFault}, {[]api.Op{null, push(4), mk(api.OpCallI, 0, 0)}, 3, api.NullFault}, {[]api.Op{inst(3), push(4), mk(api.OpCallI, 1, 1)}, 3, api.CastFault},
		{[]api.Op{inst(2), mk(api.OpCast, 0, 0), inst(2), same}, 1, ran}, {[]api.Op{null, mk(api.OpCast, 0, 0), null, same}, 1, ran}, {[]api.Op{inst(1), mk(api.OpCast, 0, 1), null, same}, 3, api.CastFault}, {[]api.Op{inst(2), mk(api.OpCast, 1, 0), inst(2), same}, 1, ran}, {[]api.Op{inst(1), mk(api.OpCast, 1, 0), null, same}, 3, api.CastFault}, {[]api.Op{null, mk(api.OpCast, 1, 2), null, same}, 1, ran},
		{[]api.Op{inst(2), mk(api.OpTry, 0, 0), inst(2), same}, 1, ran}, {[]api.Op{inst(1), mk(api.OpTry, 0, 1), null, same}, 1, ran}, {[]api.Op{inst(1), mk(api.OpTry, 1, 0), null, same}, 1, ran}, {[]api.Op{inst(1), mk(api.OpTry, 1, 1), inst(1), same}, 1, ran}, {[]api.Op{inst(3), mk(api.OpTry, 1, 2), null, same}, 1, ran},
		{[]api.Op{push(8), push(9), mk(api.OpPop)}, 8, ran}, {[]api.Op{push(8), inst(3), mk(api.OpPop)}, 8, ran}, {[]api.Op{inst(2), store(3), load(3), inst(2), same}, 1, ran}, {[]api.Op{inst(2), mk(api.OpStoreG, 1), loadG(1), inst(2), same}, 1, ran},
		{[]api.Op{push(1), push(5), mk(api.OpStep, 0), push(7), push(5), mk(api.OpStep, 0), mk(api.OpCV, 0)}, 3, ran}, {[]api.Op{push(1), push(0), mk(api.OpStep, 0), mk(api.OpQ, 0)}, 1, ran}, {[]api.Op{push(0), push(0), mk(api.OpStep, 0), mk(api.OpQ, 0)}, 0, ran}, {[]api.Op{push(1), push(9), mk(api.OpStep, 1), mk(api.OpCV, 1)}, 1, ran}, {[]api.Op{push(5), mk(api.OpTick, 6)}, 5, ran},
	} {
		if n, fault := value(t, c.ops...); n != c.n || fault != c.fault {
			t.Errorf("P21.3: the %d-th: %d, fault %d, want %d, %d", i, n, fault, c.n, c.fault)
		}
	}
}

func TestFields(t *testing.T) {
	// B's code: its fields by place.
	im := world("", mk(api.OpInst, 2), push(6), mk(api.OpCallV, 1, 0))
	im.Codes[1].Ops = []api.Op{mk(api.OpLoad, 0), mk(api.OpStoreF, 0), mk(api.OpNull), mk(api.OpStoreF, 1), mk(api.OpRet)}
	v := open(t, im)
	for i, c := range []struct{ inst, field, n int }{{1, 0, 10}, {2, 0, 20}, {2, 2, 30}, {2, 4, 7}, {1, 1, 0}} {
		if n, ok := v.Field(c.inst, c.field); n != c.n || !ok {
			t.Errorf("P21.1: Field, the %d-th: %d, %v", i, n, ok)
		}
	}
	for _, c := range [][2]int{{0, 0}, {4, 0}, {-1, 0}, {1, 2}, {1, -1}, {3, 0}} {
		if n, ok := v.Field(c[0], c[1]); n != 0 || ok {
			t.Errorf("P21.1: Field%v: %d, %v", c, n, ok)
		}
	}
	v.Run(4, nil, 0, 100)
	if n, _ := v.Field(2, 0); n != 6 {
		t.Errorf("P21.3: %d", n)
	}
	if n, _ := v.Field(1, 0); n != 10 {
		t.Errorf("P21.3: %d", n)
	}
	im = world("", mk(api.OpInst, 2), push(2), mk(api.OpCallV, 1, 0), mk(api.OpInst, 2), mk(api.OpStoreG, 1))
	// N as one of B's own: the fields 2 to 4 are an array.
	im.Codes[1].Class, im.Classes[0].VTable[1], im.Classes[0].Tables, im.Insts = 1, -1, nil, []int{2, 1, 2}
	im.Codes[1].Ops = []api.Op{mk(api.OpLoad, 0), mk(api.OpLoad, 0), mk(api.OpGetF, 2, 3), push(1), mk(api.OpBin, api.Add), mk(api.OpPutF, 2, 3), mk(api.OpRet)}
	im.Codes[1].Stack, _ = flow.Check(im, 1)
	im.D, im.W, _ = bound.Of(im)
	v = open(t, im)
	v.Run(4, nil, 0, 100)
	if n, _ := v.Field(2, 4); n != 8 {
		t.Errorf("P21.3: an array of fields: %d", n)
	}
	if n, _ := v.Global(1); n != 2 {
		t.Errorf("P21.1: a reference: %d", n)
	}
}

func TestBegin(t *testing.T) {
	v := open(t, world("ir", push(1), push(2), mk(api.OpPop), mk(api.OpPop), mk(api.OpTick, 5)))
	if v.Frames() != 0 || v.Words() != 0 || v.Used() != 0 {
		t.Error("P21.1: no run")
	}
	if over, fault := v.Step(); !over || fault != api.Running {
		t.Error("P21.2: Step without a run")
	}
	for _, code := range []int{-1, 0, 3, 5} {
		if v.Begin(code, nil, 0, 9) {
			t.Errorf("P21.1: Begin(%d)", code)
		}
		if fault, used := v.Run(code, nil, 0, 9); fault != api.Arg || used != 0 {
			t.Errorf("P21.2: Run(%d): %d, %d", code, fault, used)
		}
	}
	if !v.Begin(4, nil, 0, 100) || v.Used() != 1 || v.Frames() != 1 || v.Words() != 2 {
		t.Errorf("P21.1: Begin: %d, %d, %d", v.Used(), v.Frames(), v.Words())
	}
	if v.Begin(4, []int{9, 9, 9}, 0, 100) {
		t.Error("P21.1: Begin while a run is under way")
	}
	if fault, used := v.Run(4, []int{9, 9, 9}, 0, 100); fault != api.Arg || used != 0 || v.Frames() != 1 {
		t.Error("P21.2: Run while a run is under way")
	}
	if n, _ := v.Global(4); n != 0 {
		t.Error("R5: a Begin that is refused")
	}
	for i, words := range []int{3, 4, 3, 2, 2} {
		if over, fault := v.Step(); over || fault != api.Running || v.Words() != words {
			t.Errorf("P21.2: step %d: %v, %d, %d words", i, over, fault, v.Words())
		}
	}
	if v.Used() != 6 {
		t.Errorf("P21.1: Used: %d", v.Used())
	}
	if over, fault := v.Step(); !over || fault != api.Running || v.Frames() != 0 || v.Words() != 0 || v.Used() != 6 {
		t.Error("P21.2: the last step")
	}
}

func TestInputs(t *testing.T) {
	v := open(t, world(""))
	check := func(in []int, four, five int) {
		t.Helper()
		v.Run(4, in, 0, 100)
		a, _ := v.Global(4)
		b, _ := v.Global(5)
		if a != four || b != five {
			t.Errorf("P21.1: %v: %d, %d", in, a, b)
		}
	}
	if n, ok := v.Global(4); n != 6 || !ok {
		t.Errorf("P21.1: %d", n)
	}
	check([]int{1, 65536, 40000, 4}, -25536, 1)
	check([]int{7, 0, 9}, 9, 0)
	check([]int{7, -1}, 0, 1)
	check(nil, 0, 0)
	for _, i := range []int{-1, 6} {
		if n, ok := v.Global(i); n != 0 || ok {
			t.Errorf("P21.1: Global(%d)", i)
		}
	}
	if b, ok := v.Block(1); b != (api.Block{Kind: api.CTU}) || !ok {
		t.Errorf("P21.1: Block: %v", b)
	}
	for _, i := range []int{-1, 2} {
		if b, ok := v.Block(i); b != (api.Block{}) || ok {
			t.Errorf("P21.1: Block(%d): %v", i, b)
		}
	}
}

func TestBudgets(t *testing.T) {
	ticks := world("", mk(api.OpTick, 3), push(8), mk(api.OpStoreG, 0), mk(api.OpTick, 2))
	for _, c := range []struct{ budget, fault, used, n int }{{-7, 6, 1, 3}, {0, 6, 1, 3}, {1, 6, 2, 3}, {3, 6, 4, 3}, {4, 6, 5, 8}, {5, 6, 6, 8}, {6, 0, 6, 8}, {9000, 0, 6, 8}} {
		v := open(t, ticks)
		fault, used := v.Run(4, nil, 0, c.budget)
		if n, _ := v.Global(0); fault != c.fault || used != c.used || n != c.n {
			t.Errorf("P21.2: budget %d: %d, %d, %d", c.budget, fault, used, n)
		}
	}
	v := open(t, world("", mk(api.OpTick, 9999)))
	if fault, used := v.Run(4, nil, 0, 1<<40); fault != api.Watchdog || used != 4001 || v.Used() != 10000 || v.Frames() != 0 {
		t.Errorf("P21.2: %d, %d, %d", fault, used, v.Used())
	}
	// MaxFuel instructions are run, the next one is not.
	loop := open(t, world("", push(1), mk(api.OpPop), mk(api.OpJump, 0)))
	loop.Begin(4, nil, 0, 10)
	for range api.MaxFuel {
		if over, _ := loop.Step(); over {
			t.Fatal("P21.2: too little fuel")
		}
	}
	if over, fault := loop.Step(); !over || fault != api.Watchdog || loop.Used() != 1 {
		t.Error("P21.2: too much fuel")
	}
	if fault, used := loop.Run(4, nil, 0, 10); fault != api.Watchdog || used != 11 {
		t.Errorf("P21.2: %d, %d", fault, used)
	}
}

func TestCalls(t *testing.T) {
	im := world("i", mk(api.OpInst, 2), push(4), mk(api.OpCallV, 0, 0), mk(api.OpPop))
	v := open(t, im)
	v.Begin(4, nil, 0, 100)
	deepest, widest, ran := 0, 0, 0
	for over := false; !over; over, _ = v.Step() {
		deepest, widest, ran = max(deepest, v.Frames()), max(widest, v.Words()), ran+1
	}
	if deepest != 3 || im.D != 3 || widest > im.W || ran != 1+4+9+3+4 {
		t.Errorf("P21.3: %d frames, %d words of %d, %d steps", deepest, widest, im.W, ran)
	}
	// Behind a fault the run is over, what was done stays done, and another one may begin.
	v = open(t, world("", mk(api.OpInst, 2), push(4), mk(api.OpCallV, 1, 0), mk(api.OpNull), push(4), mk(api.OpCallV, 1, 0)))
	for range 2 {
		if fault, used := v.Run(4, nil, 0, 100); fault != api.NullFault || used != 1 || v.Frames() != 0 || v.Words() != 0 {
			t.Errorf("P21.2: %d, %d", fault, used)
		}
	}
	if n, _ := v.Field(2, 0); n != 4 {
		t.Errorf("P21.2: %d", n)
	}
}

func TestFirstCode(t *testing.T) {
	im := api.Image{Classes: []api.Desc{{Base: -1, Fields: "i", Init: []int{4}}}, Codes: []api.Code{{Class: -1, Ops: []api.Op{push(0), push(6), mk(api.OpPutG, 0, 2), push(0), mk(api.OpGetG, 0, 2), mk(api.OpStoreG, 1), mk(api.OpRet)}}},
		Insts: []int{0, 0}, Globals: "ii", Init: []int{0, 0}}
	im.Codes[0].Stack, _ = flow.Check(im, 0)
	im.D, im.W, _ = bound.Of(im)
	v := open(t, im)
	if fault, used := v.Run(0, nil, 0, 9); fault != api.Running || used != 1 {
		t.Errorf("P21.2: %d, %d", fault, used)
	}
	for i := range 2 {
		if n, ok := v.Global(i); n != 6 || !ok {
			t.Errorf("P21.3: place 0: %d", n)
		}
		if n, ok := v.Field(i+1, 0); n != 4 || !ok {
			t.Errorf("P21.1: Field of %d: %d, %v", i+1, n, ok)
		}
	}
}

func TestNew(t *testing.T) {
	im := world("", push(9), mk(api.OpStoreG, 0))
	v := open(t, im)
	im.Codes[4].Ops[0].A, im.Init[0], im.Classes[0].Init[0], im.Ins[0].Global = 1, 99, 99, 0
	if n, _ := v.Global(0); n != 3 {
		t.Error("R4: Init is kept")
	}
	v.Run(4, []int{5, 5, 5}, 0, 100)
	if n, _ := v.Global(0); n != 9 {
		t.Errorf("R4: Ops are kept: %d", n)
	}
	if n, _ := v.Field(1, 0); n != 10 {
		t.Error("R4: a class's Init is kept")
	}
	im = world("", push(9))
	none, err := New(im)
	if code, at, _ := diag.Find(err); none != nil || code != api.Unsafe || at != 0 {
		t.Errorf("P21.1: New: %v", err)
	}
	over, fault := none.Step()
	ran, used := none.Run(4, nil, 0, 0)
	g, isG := none.Global(0)
	f, isF := none.Field(1, 0)
	b, isB := none.Block(0)
	if over || fault != api.Arg || ran != api.Arg || used != 0 || none.Begin(4, nil, 0, 0) || none.Frames() != 0 || none.Words() != 0 || none.Used() != 0 || g != 0 || isG || f != 0 || isF || b != (api.Block{}) || isB {
		t.Error("R3: no machine")
	}
}
