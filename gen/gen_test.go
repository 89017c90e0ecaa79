package gen_test

import (
	"reflect"
	"slices"
	"strings"
	"testing"

	"governor/api"
	"governor/diag"
	"governor/gen"
	"governor/graph"
	"governor/layout"
	"governor/mean"
	"governor/rules"
	"governor/samples"
	"governor/syntax"
	"governor/verify"
	"governor/vm"
)

func read(t *testing.T, src string) api.Unit {
	t.Helper()
	u, _, err := syntax.Parse(src)
	if err != nil {
		t.Fatal(src, err)
	}
	return u
}

func image(t *testing.T, u api.Unit) api.Image {
	t.Helper()
	im, err := gen.Image(u)
	if err != nil {
		t.Fatal(err)
	}
	if why := verify.Why(im); why != "" {
		t.Fatalf("P17.2: not accepted: %s: %v", why, im)
	}
	return im
}

// twin is a unit twice: its memory, and its machine.
type twin struct {
	u  api.Unit
	im api.Image
	m  *mean.Mem
	v  *vm.VM
}

func open(t *testing.T, u api.Unit) *twin {
	t.Helper()
	w := &twin{u: u, im: image(t, u)}
	var err error
	if w.m, err = mean.New(u); err != nil {
		t.Fatal(err)
	}
	if w.v, err = vm.New(w.im); err != nil {
		t.Fatal(err)
	}
	return w
}

// run runs a program on both, and holds them against each other.
func (w *twin) run(t *testing.T, d int, in []int, dt int, budget int) (int, int) {
	t.Helper()
	code := layout.Code(w.u, api.Where{Decl: d, Method: -1})
	fault, cost := w.m.Run(w.u.Decls[d].Name, in, dt, budget)
	got, used := w.machine(t, code, in, dt, budget)
	if got != fault || used != cost {
		t.Errorf("P17.3: fault %d of %d, used %d of %d", got, fault, used, cost)
	}
	w.hold(t)
	return fault, cost
}

// machine runs a code step by step, within what is promised of each moment.
func (w *twin) machine(t *testing.T, code int, in []int, dt int, budget int) (int, int) {
	t.Helper()
	if !w.v.Begin(code, in, dt, budget) {
		t.Fatal("P21.1: Begin")
	}
	for ran := 0; ; ran++ {
		if ran > 40*w.v.Used()+40 {
			t.Errorf("P17.3: %d instructions for %d", ran, w.v.Used())
		}
		if w.v.Frames() > w.im.D || w.v.Words() > w.im.W {
			t.Errorf("T4: %d frames of %d, %d words of %d", w.v.Frames(), w.im.D, w.v.Words(), w.im.W)
		}
		over, fault := w.v.Step()
		if over && fault == api.Watchdog {
			return fault, min(max(budget, 0), api.MaxSteps) + 1
		}
		if over {
			return fault, w.v.Used()
		}
	}
}

// hold holds the memory against the machine's globals, fields and blocks.
func (w *twin) hold(t *testing.T) {
	t.Helper()
	for d, decl := range w.u.Decls {
		if decl.Kind != api.Program {
			continue
		}
		for _, v := range decl.Vars {
			switch v.Type.Kind {
			case api.Inst:
				w.fields(t, layout.Instance(w.u, d, v.Name), v.Type.Name)
			case api.Timer:
				a, _ := w.m.Block(decl.Name, v.Name)
				if b, ok := w.v.Block(layout.Block(w.u, d, v.Name)); !ok || a != b {
					t.Errorf("P17.3: block %s: %v, %v", v.Name, a, b)
				}
			default:
				for at := range v.Type.Hi + 1 {
					a, ok := w.m.Get(decl.Name, v.Name, at)
					if b, _ := w.v.Global(layout.Global(w.u, d, v.Name) + at); ok && a != b {
						t.Errorf("P17.3: %s of %s: %d, %d", v.Name, decl.Name, a, b)
					}
				}
			}
		}
	}
}

func (w *twin) fields(t *testing.T, inst int, class string) {
	t.Helper()
	d := slices.IndexFunc(w.u.Decls, func(d api.Decl) bool { return d.Name == class })
	for name, at := range map[string]int{"f0": 0, "f1": 0, "f2": 0, "f3": 3, "f4": 0, "f5": 0, "g0": 0, "g1": 0, "h0": 0} {
		for i := range at + 1 {
			a, ok := w.m.Field(inst, name, i)
			if b, _ := w.v.Field(inst, layout.Field(w.u, d, name)+i); ok && a != b {
				t.Errorf("P17.3: field %s of %d: %d, %d", name, inst, a, b)
			}
		}
	}
}

// bare is an image without what gen puts into it; it tells whether Locals are as they were, with more letters.
func bare(im api.Image, of api.Image) (api.Image, bool) {
	well := len(im.Codes) == len(of.Codes)
	im.D, im.W, im.Codes = 0, 0, slices.Clone(im.Codes)
	for i := range im.Codes {
		well = well && strings.HasPrefix(im.Codes[i].Locals, of.Codes[i].Locals)
		im.Codes[i].Ops, im.Codes[i].Stack, im.Codes[i].Locals = nil, 0, of.Codes[i].Locals
	}
	return im, well
}

func TestSamples(t *testing.T) {
	faults := map[int]int{}
	for seed := range 500 {
		u, _, err := syntax.Parse(samples.Source(seed))
		if err != nil || len(rules.Unit(u)) > 0 {
			continue
		}
		before := read(t, samples.Source(seed))
		w := open(t, u)
		if plain, well := bare(w.im, layout.Of(u)); !well || !reflect.DeepEqual(plain, layout.Of(u)) {
			t.Errorf("P17.1: %d: %v", seed, plain)
		}
		depth := 0
		for d := range u.Decls {
			depth = max(depth, graph.Depth(u, api.Where{Decl: d, Method: -1}))
		}
		if w.im.D != depth {
			t.Errorf("P17.2: %d: D %d of %d", seed, w.im.D, depth)
		}
		for i, budget := range []int{4000, 4000, 30, seed % 100, 2000, 0, 5, 4000} {
			for d := range u.Decls {
				if u.Decls[d].Kind == api.Program {
					fault, _ := w.run(t, d, []int{i, seed, 0, 0, -i}, i*3, budget)
					faults[fault]++
				}
			}
		}
		if !reflect.DeepEqual(u, before) {
			t.Error("R4: the unit is changed")
		}
		if t.Failed() {
			t.Fatalf("%d: %s", seed, samples.Source(seed))
		}
	}
	for fault := range 7 {
		if faults[fault] < 5 {
			t.Errorf("the samples tell %v", faults)
		}
	}
}

func program(body string) string {
	return "PROGRAM P ; VAR x : INT ; VAR y : INT ; VAR a : ARRAY [ 3 ] OF INT ; VAR g : INT ( 1 .. 5 ) := 1 ; " + body + " END_PROGRAM"
}

func TestBudgets(t *testing.T) {
	for _, body := range []string{"", "x := 5 ; y := x * ( 2 + x ) ;", "FOR x := 1 TO 5 BY 2 DO y := y + 1 ; END_FOR ;", "FOR x := 5 TO 1 BY - 1 DO FOR y := 1 TO x BY 1 DO EXIT ; END_FOR ; CASE x OF 3 : EXIT ; END_CASE ; END_FOR ;",
		"WHILE x < 4 DO x := x + 1 ; IF x = 2 THEN y := 1 ; ELSIF x = 3 THEN EXIT ; ELSE y := y + 2 ; END_IF ; END_WHILE ;", "CASE x OF 1 : y := 1 ; 0 , 5 : y := 2 ; ELSE y := 3 ; END_CASE ; a [ y ] := 5 ; RETURN ; x := 1 / 0 ;",
		"g := 6 ;", "x := 1 ; g := x / y ;", "a [ 9 ] := 1 / 0 ;", "x := a [ 4 ] ;", "FOR x := 32765 TO 32767 BY 1 DO y := y + 1 ; END_FOR ;", "FOR x := - 32765 TO - 32768 BY - 2 DO y := y + 1 ; END_FOR ;", "FOR x := - 32768 TO 32767 BY 32768 DO y := y + 1 ; END_FOR ;", "FOR x := 32767 TO - 32768 BY - 32768 DO y := y + 1 ; END_FOR ;",
		"CASE 1 OF - 32768 , 32767 : x := 1 ; END_CASE ; CASE 32768 OF - 32768 : x := 2 ; END_CASE ;"} {
		u := read(t, program(body))
		for budget := -1; budget < 120; budget++ {
			open(t, u).run(t, 0, nil, 0, budget)
		}
	}
}

// TestFarSteps holds a For whose step is no 16 bits: no source has one, but a tree may.
func TestFarSteps(t *testing.T) {
	for _, by := range []int{1 << 15, 1<<15 + 1, 65534, 65535, 65536, 1 << 40, 1<<63 - 1, -1 << 15, -65535, -65536, -1 << 40, -1 << 63} {
		for _, from := range []int{-32768, -32767, -1, 0, 1, 32766, 32767} {
			u := read(t, program("FOR x := 0 TO 32767 BY 1 DO y := y + 1 ; END_FOR ;"))
			s := &u.Decls[0].Body[0]
			s.N, s.Exprs[0].N = by, from
			if by < 0 {
				s.Exprs[1].N = -32768
			}
			open(t, u).run(t, 0, nil, 0, 4000)
		}
	}
}

func TestShapes(t *testing.T) {
	im := image(t, read(t, "PROGRAM P ; END_PROGRAM"))
	if len(im.Codes) != 1 || im.D != 1 || im.Codes[0].Ops[len(im.Codes[0].Ops)-1] != (api.Op{K: api.OpRet}) {
		t.Errorf("P17.1: %v", im)
	}
	if im := image(t, api.Unit{}); !reflect.DeepEqual(im, api.Image{}) {
		t.Errorf("P17.1: of nothing: %v", im)
	}
	// Code that no way leads to is laid, so its calls count; an instance's call is one of CallV.
	u := read(t, "CLASS C ; METHOD M ( ) ; RETURN ; THIS . N ( ) ; END_METHOD METHOD N ( ) ; END_METHOD END_CLASS PROGRAM P ; VAR c : C ; RETURN ; WHILE FALSE DO c . M ( ) ; END_WHILE ; END_PROGRAM")
	im = image(t, u)
	if im.D != 3 || graph.Depth(u, api.Where{Decl: 1, Method: -1}) != 3 {
		t.Errorf("P17.1: %v", im)
	}
	calls := 0
	for _, o := range im.Codes[2].Ops {
		if o.K == api.OpCallV && o == (api.Op{K: api.OpCallV}) {
			calls++
		}
	}
	if calls != 1 {
		t.Errorf("P17.1: %v", im.Codes[2])
	}
}

func TestFirstValues(t *testing.T) {
	w := open(t, read(t, "CLASS C ; METHOD M ( ) : INT ; VAR b : BOOL := 1 ; VAR n : INT := 1 ; VAR z : INT ; VAR g : INT ( - 4 .. 9 ) := - 3 ; IF b THEN n := n + 1 ; END_IF ; z := z + g ; RETURN ( n * 10 ) + z ; END_METHOD END_CLASS PROGRAM P ; VAR c : C ; VAR x : INT ; x := c . M ( ) ; x := x + c . M ( ) ; END_PROGRAM"))
	w.run(t, 1, nil, 0, 4000)
	if n, _ := w.m.Get("P", "x", 0); n != 34 {
		t.Errorf("P17.3: %d", n)
	}
}

func TestErrors(t *testing.T) {
	for _, src := range []string{"PROGRAM P ; x := 1 ; END_PROGRAM", "TASK T ( INTERVAL 1 , PRIORITY 0 ) : P ;", "CLASS C ; METHOD M ( ) ; THIS . M ( ) ; END_METHOD END_CLASS"} {
		im, err := gen.Image(read(t, src))
		if code, at, _ := diag.Find(err); code != api.Arg || at != 0 || !reflect.DeepEqual(im, api.Image{}) {
			t.Errorf("P17.1: %s: %v", src, err)
		}
	}
}

func TestLargeSources(t *testing.T) {
	for _, part := range []string{"x := 1 + 2 ;", "CASE x OF 1 , 2 , 3 , 4 , 5 , 6 , 7 , 8 : END_CASE ;", "FOR x := 1 TO 2 BY 1 DO END_FOR ;", "IF x = 1 THEN ELSIF x = 2 THEN END_IF ;", "CASE x OF END_CASE ;", "a [ a [ a [ a [ a [ 1 ] ] ] ] ] := - x ;"} {
		lists := ""
		for range 6 {
			lists += "IF x = 1 THEN " + strings.Repeat(part+" ", 24) + "END_IF ; "
		}
		for len(lists)+100 > api.MaxSource || strings.Count(lists, " ") > 1400 {
			lists = lists[:strings.LastIndex(lists[:len(lists)-2], "IF x = 1 THEN "+part)]
		}
		w := open(t, read(t, program(lists)))
		w.run(t, 0, nil, 0, 4000)
	}
}

func TestLargeTrees(t *testing.T) {
	u := read(t, program("x := 1 ;"))
	one := u.Decls[0].Body[0]
	for range 30000 {
		u.Decls[0].Body = append(u.Decls[0].Body, one)
	}
	e := api.Expr{Kind: api.Num, N: 1}
	for range 990 {
		e = api.Expr{Kind: api.Neg, Args: []api.Expr{e}}
	}
	u.Decls[0].Body = append(u.Decls[0].Body, api.Stmt{Kind: api.Assign, Name: "x", Exprs: []api.Expr{e}})
	if im, err := gen.Image(u); err != nil || len(im.Codes[0].Ops) < 90000 {
		t.Errorf("R1: %v", err)
	}
}
