package layout

import (
	"reflect"
	"strconv"
	"testing"

	"governor/api"
	"governor/rules"
	"governor/syntax"
)

func read(t *testing.T, src string) api.Unit {
	t.Helper()
	u, _, err := syntax.Parse(src)
	if err != nil {
		t.Fatal(src, err)
	}
	if wrong := rules.Unit(u); wrong != nil {
		t.Fatal(wrong)
	}
	return u
}

// 0 P, 1 A, 2 J, 3 B of A, 4 I, 5 C of B, 6 Q, 7 S, 8 T.
const source = `PROGRAM P ; VAR x : INT := 3 AT IN 5 ; VAR a : ARRAY [ 2 ] OF INT ; VAR t : CTU ; VAR r : REF_TO A ; VAR o : C ; VAR f : BOOL := 1 AT OUT 2 ; VAR u : TON ; VAR g : INT ( 2 .. 4 ) := 2 ; END_PROGRAM
CLASS ABSTRACT A ; VAR n : INT := 7 ; VAR l : ARRAY [ 1 ] OF INT ; VAR me : REF_TO A ; METHOD ABSTRACT M ( a : INT , b : REF_TO A ) : INT ; END_METHOD METHOD K ( ) ; VAR v : INT ; VAR w : ARRAY [ 2 ] OF INT ; VAR s : REF_TO I ; END_METHOD END_CLASS
INTERFACE J ; METHOD K ( ) ; METHOD N ( b : BOOL ) : BOOL ; END_INTERFACE
CLASS B EXTENDS A IMPLEMENTS J ; VAR g : INT ( 1 .. 5 ) := 4 ; METHOD N ( b : BOOL ) : BOOL ; END_METHOD METHOD OVERRIDE M ( a : INT , b : REF_TO A ) : INT ; END_METHOD END_CLASS
INTERFACE I ; METHOD M ( a : INT , b : REF_TO A ) : INT ; END_INTERFACE
CLASS C EXTENDS B IMPLEMENTS I ; VAR h : BOOL := 1 ; METHOD OVERRIDE K ( ) ; END_METHOD METHOD Z ( ) ; END_METHOD END_CLASS
PROGRAM Q ; VAR q : INT AT IN 5 ; VAR p : C ; VAR b : B ; VAR e : F_TRIG ; VAR z : INT AT OUT 0 ; VAR i : BOOL AT IN 1 ; END_PROGRAM
TASK S ( INTERVAL 5 , PRIORITY 1 ) : Q ;
TASK T ( INTERVAL 2 , PRIORITY 3 ) : P ;`

func TestNumbers(t *testing.T) {
	u := read(t, source)
	same := func(what string, got []int, want ...int) {
		t.Helper()
		if !reflect.DeepEqual(got, want) {
			t.Errorf("P16.1: %s: %v, want %v", what, got, want)
		}
	}
	var classes, faces, bodies, methods []int
	for d := -1; d < 10; d++ {
		classes = append(classes, Class(u, d))
		faces = append(faces, Face(u, d))
		bodies = append(bodies, Code(u, api.Where{Decl: d, Method: -1}))
		for m := range 3 {
			methods = append(methods, Code(u, api.Where{Decl: d, Method: m}))
		}
	}
	same("Class", classes, -1, -1, 0, -1, 1, -1, 2, -1, -1, -1, -1)
	same("Face", faces, -1, -1, -1, 0, -1, 1, -1, -1, -1, -1, -1)
	same("Code of programs", bodies, -1, 5, -1, -1, -1, -1, -1, 6, -1, -1, -1)
	same("Code of methods", methods, -1, -1, -1, -1, -1, -1, -1, 0, -1, -1, -1, -1, 1, 2, -1, -1, -1, -1, 3, 4, -1, -1, -1, -1, -1, -1, -1, -1, -1, -1, -1, -1, -1)
	each := func(f func(api.Unit, int, string) int, d int, names string) []int {
		var all []int
		for _, name := range names {
			all = append(all, f(u, d, string(name)))
		}
		return all
	}
	same("Global of P", each(Global, 0, "xatrofugq"), 0, 1, -1, 4, -1, 5, -1, 6, -1)
	same("Global of Q", each(Global, 6, "qpbezix"), 7, -1, -1, -1, 8, 9, -1)
	same("Global of none", []int{Global(u, 1, "n"), Global(u, 9, "x"), Global(u, -1, "x"), Global(u, 7, "x")}, -1, -1, -1, -1)
	same("Instance of P", each(Instance, 0, "xto"), -1, -1, 1)
	same("Instance of Q", each(Instance, 6, "pbeo"), 2, 3, -1, -1)
	same("Block", append(each(Block, 0, "tux"), each(Block, 6, "et")...), 0, 1, -1, 2, -1)
	same("Field of A", append(each(Field, 1, "nlgM"), Field(u, 1, "me")), 0, 1, -1, -1, 3)
	same("Field of C", append(each(Field, 5, "nlghx"), Field(u, 5, "me")), 0, 1, 4, 5, -1, 3)
	same("Field of none", []int{Field(u, 0, "x"), Field(u, 2, "x"), Field(u, -1, "n"), Field(u, 99, "n")}, -1, -1, -1, -1)
	same("Slot of A", each(Slot, 1, "MKNZ"), 0, 1, -1, -1)
	same("Slot of B", each(Slot, 3, "MKNZ"), 0, 1, 2, -1)
	same("Slot of C", each(Slot, 5, "MKNZn"), 0, 1, 2, 3, -1)
	same("Slot of none", []int{Slot(u, 0, "M"), Slot(u, 2, "K"), Slot(u, -1, "M"), Slot(u, 99, "M")}, -1, -1, -1, -1)
}

func TestImage(t *testing.T) {
	u := read(t, source)
	want := api.Image{
		Faces: [][]string{{">", "i>i"}, {"ir>i"}},
		Classes: []api.Desc{
			{Base: -1, Fields: "iiir", Init: []int{7, 0, 0, 0}, VTable: []int{-1, 0}, Sigs: []string{"ir>i", ">"}},
			{Base: 0, Fields: "iiiri", Init: []int{7, 0, 0, 0, 4}, VTable: []int{2, 0, 1}, Sigs: []string{"ir>i", ">", "i>i"}, Tables: []api.Table{{Face: 0, Slots: []int{0, 1}}}},
			{Base: 1, Fields: "iiirii", Init: []int{7, 0, 0, 0, 4, 1}, VTable: []int{2, 3, 1, 4}, Sigs: []string{"ir>i", ">", "i>i", ">"}, Tables: []api.Table{{Face: 0, Slots: []int{3, 1}}, {Face: 1, Slots: []int{2}}}},
		},
		Codes: []api.Code{{Class: 0, Locals: "iiiir"}, {Class: 1, Params: "i", Ret: true}, {Class: 1, Params: "ir", Ret: true}, {Class: 2}, {Class: 2}, {Class: -1}, {Class: -1}},
		Insts: []int{2, 2, 1}, Globals: "iiiiriiiii", Init: []int{3, 0, 0, 0, 0, 1, 2, 0, 0, 0}, Blocks: []int{api.CTU, api.TON, api.FTrig},
		Ins:  []api.Link{{Global: 0, Slot: 5}, {Global: 7, Slot: 5}, {Global: 9, Slot: 1, Bool: true}},
		Outs: []api.Link{{Global: 5, Slot: 2, Bool: true}, {Global: 8, Slot: 0}},
		Jobs: []api.Job{{Code: 6, Every: 5, First: 1}, {Code: 5, Every: 2, First: 3}},
	}
	if got := Of(u); !reflect.DeepEqual(got, want) {
		t.Errorf("P16.2: %v, want %v", got, want)
	}
	if got := Of(read(t, "PROGRAM P ; VAR x : INT := 3 ; END_PROGRAM")); got.Globals != "i" || !reflect.DeepEqual(got.Init, []int{3}) || len(got.Codes) != 1 {
		t.Errorf("P16.2: %v", got)
	}
	if got := Of(api.Unit{}); !reflect.DeepEqual(got, api.Image{}) {
		t.Errorf("P16.2: of nothing: %v", got)
	}
}

func TestAbstractFaces(t *testing.T) {
	u := read(t, "INTERFACE I ; METHOD M ( ) ; METHOD N ( ) ; END_INTERFACE INTERFACE H ; METHOD N ( ) ; END_INTERFACE CLASS ABSTRACT A IMPLEMENTS H , I ; METHOD ABSTRACT N ( ) ; END_METHOD METHOD M ( ) ; END_METHOD END_CLASS")
	want := []api.Table{{Face: 0, Slots: []int{0, -1}}, {Face: 1, Slots: []int{-1}}}
	if got := Of(u).Classes[0]; !reflect.DeepEqual(got.Tables, want) || !reflect.DeepEqual(got.VTable, []int{-1, 0}) {
		t.Errorf("P16.2: %v", got)
	}
}

func TestAllDeclarations(t *testing.T) {
	src := ""
	for i := range api.MaxDecls {
		src += "CLASS C" + strconv.Itoa(i) + " ; METHOD M ( ) ; END_METHOD END_CLASS "
	}
	if got := Of(read(t, src)); len(got.Classes) != api.MaxDecls || len(got.Codes) != api.MaxDecls {
		t.Errorf("P16.2: %d classes", len(got.Classes))
	}
}

func TestOddUnits(t *testing.T) {
	var long api.Unit
	for i := range 30000 {
		long.Decls = append(long.Decls, api.Decl{Kind: api.Class, Name: strconv.Itoa(i), Base: strconv.Itoa(i + 1), Methods: make([]api.Method, 1)})
	}
	odd := api.Unit{Decls: []api.Decl{
		{Kind: api.Class, Name: "A", Base: "B", Faces: []string{"I", "I"}, Vars: []api.Var{{Type: api.Type{Kind: api.Array, Hi: 1 << 62}}, {Type: api.Type{Kind: api.Array, Hi: -9}}}, Methods: []api.Method{{Over: true}, {Params: []api.Var{{Type: api.Type{Kind: api.Inst}}}}}},
		{Kind: api.Class, Name: "B", Base: "A"}, {Kind: api.Interface, Name: "I", Methods: make([]api.Method, 3)}, {Kind: 7},
		{Kind: api.Program, Vars: []api.Var{{Dir: 1, Slot: -1}, {Type: api.Type{Kind: api.Inst}}, {Type: api.Type{Kind: api.Timer}}, {}}}, {Kind: api.TaskOf, Base: "A"}}}
	for _, u := range []api.Unit{long, odd} {
		Of(u)
		for d := -1; d < 7; d++ {
			Class(u, d)
			Face(u, d)
			Code(u, api.Where{Decl: d})
			Global(u, d, "")
			Field(u, d, "")
			Slot(u, d, "")
			Instance(u, d, "")
			Block(u, d, "")
		}
	}
}
