package rules

import (
	"reflect"
	"slices"
	"strconv"
	"strings"
	"testing"

	"governor/api"
	"governor/syntax"
)

func read(t *testing.T, src string) api.Unit {
	t.Helper()
	u, _, err := syntax.Parse(src)
	if err != nil {
		t.Fatal(src, err)
	}
	return u
}

// last tells what is wrong with the last declaration of a source.
func last(t *testing.T, promise string, code int, src string) {
	t.Helper()
	u := read(t, src)
	before := read(t, src)
	if got := Decl(u, len(u.Decls)-1); got != code {
		t.Errorf("%s: %s: %d, want %d", promise, src, got, code)
	}
	if !reflect.DeepEqual(u, before) {
		t.Errorf("R4: %s", src)
	}
}

const (
	ahead = "INTERFACE I ; METHOD M ( ) ; END_INTERFACE CLASS A ; END_CLASS CLASS ABSTRACT Z ; END_CLASS PROGRAM P ; END_PROGRAM "
	end   = " END_CLASS"
)

func TestTypesThatMayBe(t *testing.T) {
	const none, param, field, variable = 0, 1, 2, 3
	for typ, rank := range map[string]int{"INT": param, "BOOL": param, "REF_TO I": param, "REF_TO A": param, "REF_TO Z": param, "REF_TO P": none, "REF_TO X": none, "REF_TO C": param,
		"INT ( 1 .. 5 )": field, "INT ( - 32768 .. 32767 )": field, "INT ( 1 .. 32768 )": none, "INT ( 2 .. 1 )": none, "INT ( 2 .. 2 )": field,
		"ARRAY [ 0 ] OF INT": field, "ARRAY [ 7 ] OF INT": field, "ARRAY [ 8 ] OF INT": none, "A": variable, "Z": none, "I": none, "X": none, "P": none, "TON": variable, "F_TRIG": variable} {
		code := func(may bool) int {
			if may {
				return api.Fine
			}
			return api.Kind
		}
		init := ""
		if strings.HasPrefix(typ, "INT (") {
			init = " := " + strings.Fields(strings.TrimPrefix(typ, "INT ( "))[0]
			if strings.HasPrefix(typ, "INT ( -") {
				init = ""
			}
		}
		inParam, inField, inVar := code(rank == param), code(rank == param || rank == field), code(rank != none)
		at := ahead + "CLASS C ; "
		if typ == "REF_TO C" {
			last(t, "P8.1", api.Fine, at+"VAR v : REF_TO C ; METHOD M ( a : REF_TO C ) ; END_METHOD"+end)
			continue
		}
		last(t, "P8.1", inParam, at+"METHOD M ( a : "+typ+" ) ; END_METHOD"+end)
		last(t, "P8.1", inParam, ahead+"INTERFACE C ; METHOD M ( a : "+typ+" ) ; END_INTERFACE")
		last(t, "P8.1", inField, at+"VAR v : "+typ+init+" ;"+end)
		last(t, "P8.1", inField, at+"METHOD M ( ) ; VAR v : "+typ+init+" ; END_METHOD"+end)
		last(t, "P8.1", inVar, ahead+"PROGRAM Q ; VAR v : "+typ+init+" ; END_PROGRAM")
		result := api.Kind
		if typ == "INT" || typ == "BOOL" {
			result = api.Fine
		}
		last(t, "P8.1", result, at+"METHOD M ( ) : "+typ+" ; END_METHOD"+end)
		last(t, "P8.1", result, ahead+"INTERFACE C ; METHOD M ( ) : "+typ+" ; END_INTERFACE")
	}
	odd := func(typ api.Type) api.Unit {
		return api.Unit{Decls: []api.Decl{{Kind: api.Program, Name: "P", Vars: []api.Var{{Name: "v", Type: typ}}}}}
	}
	for _, typ := range []api.Type{{}, {Kind: 8}, {Kind: -1}, {Kind: api.Timer}, {Kind: api.Timer, Lo: 8}, {Kind: api.Array, Hi: -1}, {Kind: api.Range, Lo: -32769, Hi: 1}} {
		if got := Decl(odd(typ), 0); got != api.Kind {
			t.Errorf("P8.1: %v: %d", typ, got)
		}
	}
}

func TestInits(t *testing.T) {
	for decl, code := range map[string]int{"INT := 32767": 0, "INT := - 32768": 0, "INT := 32768": api.Init, "BOOL := 1": 0, "BOOL := 2": api.Init, "BOOL := - 1": api.Init,
		"INT ( 2 .. 4 ) := 2": 0, "INT ( 2 .. 4 ) := 4": 0, "INT ( 2 .. 4 )": api.Init, "INT ( 2 .. 4 ) := 5": api.Init, "ARRAY [ 2 ] OF INT := 1": api.Init, "REF_TO A := 1": api.Init, "REF_TO A := 0": 0} {
		last(t, "P8.1", code, ahead+"CLASS C ; VAR v : "+decl+" ;"+end)
		last(t, "P8.1", code, ahead+"CLASS C ; METHOD M ( ) ; VAR v : "+decl+" ; END_METHOD"+end)
		last(t, "P8.1", code, ahead+"PROGRAM C ; VAR v : "+decl+" ; END_PROGRAM")
	}
	last(t, "P8.1", api.Init, ahead+"PROGRAM C ; VAR v : A := 1 ; END_PROGRAM")
	last(t, "P8.1", api.Init, ahead+"PROGRAM C ; VAR v : TON := 1 ; END_PROGRAM")
	params := read(t, "CLASS C ; METHOD M ( a : INT ) ; END_METHOD"+end)
	params.Decls[0].Methods[0].Params[0].Init = 99999
	if Decl(params, 0) != api.Fine {
		t.Error("P8.2: a parameter's Init")
	}
}

func TestEach(t *testing.T) {
	many := func(n int) []api.Var { return make([]api.Var, n) }
	class := func(change func(d *api.Decl)) api.Unit {
		d := api.Decl{Kind: api.Class, Name: "C", Base: "X"}
		change(&d)
		return api.Unit{Decls: []api.Decl{d}}
	}
	for i, c := range []struct {
		u    api.Unit
		code int
	}{
		{class(func(d *api.Decl) {}), api.Base},
		{class(func(d *api.Decl) { d.Methods = make([]api.Method, 7) }), api.Size}, {class(func(d *api.Decl) { d.Methods = make([]api.Method, 6) }), api.Base},
		{class(func(d *api.Decl) { d.Faces = make([]string, 5) }), api.Size}, {class(func(d *api.Decl) { d.Faces = make([]string, 4) }), api.Base},
		{class(func(d *api.Decl) { d.Vars = many(9) }), api.Size}, {class(func(d *api.Decl) { d.Vars = many(8) }), api.Base},
		{class(func(d *api.Decl) { d.Methods = []api.Method{{}, {Params: many(4)}} }), api.Size}, {class(func(d *api.Decl) { d.Methods = []api.Method{{Params: many(3)}} }), api.Base},
		{class(func(d *api.Decl) { d.Methods = []api.Method{{}, {Vars: many(9)}} }), api.Size}, {class(func(d *api.Decl) { d.Methods = []api.Method{{Vars: many(8)}} }), api.Base},
		{class(func(d *api.Decl) { d.Kind, d.Vars = 5, many(9) }), api.Arg}, {class(func(d *api.Decl) { d.Kind = 0 }), api.Arg}, {class(func(d *api.Decl) { d.Kind = -1 }), api.Arg},
		{class(func(d *api.Decl) { d.Kind, d.Methods = api.TaskOf, make([]api.Method, 7) }), api.Size},
	} {
		if got := Decl(c.u, 0); got != c.code {
			t.Errorf("P8.2: the %d-th: %d, want %d", i, got, c.code)
		}
	}
	var u api.Unit
	for i := range 14 {
		u.Decls = append(u.Decls, api.Decl{Kind: api.Interface, Name: "I" + strconv.Itoa(i)})
	}
	u.Decls[13].Kind = 9
	if got, want := Unit(u), []api.Wrong{{Code: api.Size, At: 12}, {Code: api.Arg, At: 13}}; !slices.Equal(got, want) {
		t.Errorf("P8.3: %v", got)
	}
	u.Decls[3].Name, u.Decls[11].Name, u.Decls[12].Name = "I2", "I2", "I2"
	if got, want := Unit(u), []api.Wrong{{Code: api.Twice, At: 3}, {Code: api.Twice, At: 11}, {Code: api.Size, At: 12}, {Code: api.Arg, At: 13}}; !slices.Equal(got, want) {
		t.Errorf("P8.3: %v", got)
	}
	if Decl(u, -1) != api.Arg || Decl(u, 14) != api.Arg || Unit(api.Unit{}) != nil {
		t.Error("P8.2: no declaration")
	}
	last(t, "P8.2", api.Twice, "PROGRAM C ; END_PROGRAM CLASS C EXTENDS X ; END_CLASS")
}

func TestInterfaces(t *testing.T) {
	for body, code := range map[string]int{"": 0, "METHOD M ( ) ; METHOD N ( ) ; ": 0, "METHOD M ( ) ; METHOD M ( ) ; ": api.Twice, "METHOD M ( a : INT , a : INT ) ; ": api.Twice,
		"METHOD M ( a : INT ) ; METHOD N ( a : INT ) ; ": 0, "METHOD M ( a : TON ) ; METHOD M ( ) ; ": api.Kind, "METHOD M ( a : REF_TO J ) : BOOL ; ": 0} {
		last(t, "P8.2", code, "INTERFACE J ; "+body+"END_INTERFACE")
	}
}

func TestClasses(t *testing.T) {
	const base = ahead + "CLASS FINAL F ; END_CLASS CLASS B ; VAR f : INT ; METHOD M ( ) ; END_METHOD METHOD K ( a : INT ) : INT ; END_METHOD METHOD FINAL L ( ) ; END_METHOD END_CLASS" +
		" CLASS ABSTRACT H ; METHOD ABSTRACT M ( ) ; END_METHOD METHOD ABSTRACT N ( ) ; END_METHOD END_CLASS INTERFACE J ; METHOD K ( a : INT ) : INT ; END_INTERFACE "
	for class, code := range map[string]int{
		"C EXTENDS B ;": 0, "C EXTENDS C ;": api.Base, "C EXTENDS X ;": api.Base, "C EXTENDS I ;": api.Base, "C EXTENDS P ;": api.Base, "C EXTENDS F ;": api.Base, "C EXTENDS F IMPLEMENTS X ;": api.Base,
		"C IMPLEMENTS X ;": api.Face, "C IMPLEMENTS B ;": api.Face, "C IMPLEMENTS I , I ; VAR v : TON ;": api.Face, "C IMPLEMENTS J ; VAR v : TON ;": api.Kind, "C IMPLEMENTS I ;": api.Face,
		"C EXTENDS B IMPLEMENTS I , J ;": 0, "C EXTENDS A IMPLEMENTS I ;": api.Face, "C IMPLEMENTS J ; METHOD K ( a : BOOL ) : INT ; END_METHOD": api.Face, "C IMPLEMENTS J ; METHOD K ( b : INT ) : INT ; END_METHOD": 0, "C IMPLEMENTS J ; METHOD K ( b : INT ) ; END_METHOD": api.Face,
		"ABSTRACT C IMPLEMENTS I ;": api.Face, "ABSTRACT C IMPLEMENTS I ; METHOD ABSTRACT M ( ) ; END_METHOD": 0,
		"C ; VAR v : INT AT IN 0 ;": api.Kind, "C ; METHOD M ( ) ; VAR v : INT AT OUT 0 ; END_METHOD": api.Kind, "C ; VAR v : TON ; VAR w : INT := 32768 ;": api.Kind, "C ; VAR f : BOOL := 2 ; VAR f : INT ;": api.Init,
		"C ; VAR v : INT ; VAR v : INT ;": api.Twice, "C EXTENDS B ; VAR f : INT ;": api.Twice, "C ; METHOD M ( ) ; END_METHOD METHOD M ( ) ; END_METHOD": api.Twice, "C ; METHOD M ( a : INT , a : INT ) ; END_METHOD": api.Twice, "C ; METHOD M ( a : INT ) ; VAR a : INT ; END_METHOD": api.Twice,
		"C EXTENDS B ; METHOD N ( f : INT ) ; END_METHOD": api.Twice, "C ; VAR v : INT ; METHOD N ( ) ; VAR v : INT ; END_METHOD": api.Twice, "C ; METHOD N ( a : INT ) ; END_METHOD METHOD O ( a : INT ) ; END_METHOD": 0, "ABSTRACT FINAL C ; VAR v : INT ; VAR v : INT ;": api.Twice,
		"ABSTRACT FINAL C ;": api.Abstract, "ABSTRACT C ; METHOD ABSTRACT FINAL M ( ) ; END_METHOD": api.Abstract, "ABSTRACT C ; METHOD ABSTRACT M ( ) ; VAR v : INT ; END_METHOD": api.Abstract, "ABSTRACT C ; METHOD ABSTRACT M ( ) ; EXIT ; END_METHOD": api.Abstract, "C ; METHOD ABSTRACT M ( ) ; END_METHOD": api.Abstract, "ABSTRACT C ; METHOD ABSTRACT M ( ) ; END_METHOD": 0,
		"C EXTENDS H ;": api.Abstract, "C EXTENDS H ; METHOD OVERRIDE M ( ) ; END_METHOD": api.Abstract, "C EXTENDS H ; METHOD OVERRIDE M ( ) ; END_METHOD METHOD OVERRIDE N ( ) ; END_METHOD": 0, "ABSTRACT C EXTENDS H ;": 0, "C EXTENDS H ; METHOD OVERRIDE Q ( ) ; END_METHOD": api.Abstract,
		"C ; METHOD OVERRIDE M ( ) ; END_METHOD": api.Over, "C EXTENDS B ; METHOD OVERRIDE Q ( ) ; END_METHOD": api.Over, "C EXTENDS B ; METHOD M ( ) ; END_METHOD": api.Over, "C EXTENDS B ; METHOD OVERRIDE M ( ) ; END_METHOD": 0, "C EXTENDS B ; METHOD OVERRIDE L ( ) ; END_METHOD": api.Over, "C EXTENDS B ; METHOD OVERRIDE K ( a : BOOL ) : INT ; END_METHOD": api.Over, "C EXTENDS B ; METHOD OVERRIDE K ( z : INT ) : INT ; END_METHOD": 0, "C EXTENDS B ; METHOD OVERRIDE K ( a : INT ) ; END_METHOD": api.Over, "C EXTENDS A IMPLEMENTS I ; METHOD OVERRIDE M ( ) ; END_METHOD": api.Over,
		"C ; METHOD M ( ) ; EXIT ; END_METHOD": api.Typing, "C IMPLEMENTS I ; METHOD N ( ) ; EXIT ; END_METHOD": api.Face, "C ; METHOD M ( ) ; q := 1 ; END_METHOD METHOD N ( ) ; EXIT ; END_METHOD": api.Unknown, "C ; METHOD M ( ) ; EXIT ; END_METHOD METHOD N ( ) ; q := 1 ; END_METHOD": api.Typing, "C ; METHOD M ( ) ; THIS . N ( ) ; END_METHOD": api.Call, "ABSTRACT C ; METHOD ABSTRACT M ( ) ; END_METHOD METHOD N ( ) ; EXIT ; END_METHOD": api.Typing,
	} {
		last(t, "P8.2", code, base+"CLASS "+class+end)
	}
	params := read(t, "CLASS C ; METHOD M ( a : INT ) ; END_METHOD"+end)
	params.Decls[0].Methods[0].Params[0].Dir = 1
	if Decl(params, 0) != api.Kind {
		t.Error("P8.2: a parameter's Dir")
	}
	last(t, "P8.2", api.Base, "CLASS Behind EXTENDS X ; END_CLASS CLASS C EXTENDS D ; END_CLASS")
	later := read(t, "CLASS C EXTENDS D IMPLEMENTS I ; END_CLASS CLASS D IMPLEMENTS I ; METHOD M ( ) ; END_METHOD END_CLASS INTERFACE I ; METHOD M ( ) ; END_INTERFACE")
	if Decl(later, 0) != api.Base || Decl(later, 1) != api.Fine {
		t.Error("P8.2: bases and interfaces behind")
	}
}

func TestPrograms(t *testing.T) {
	const other = "PROGRAM O ; VAR a : INT AT OUT 3 ; VAR b : INT AT IN 4 ; END_PROGRAM "
	for body, code := range map[string]int{
		"VAR x : INT AT IN 0 ; VAR y : BOOL AT OUT 7 ; VAR z : INT AT IN 0 ;": 0, "VAR x : INT AT IN 8 ;": api.Slot, "VAR x : INT AT OUT 8 ;": api.Slot, "VAR x : INT AT OUT 3 ;": api.Slot, "VAR x : INT AT IN 3 ; VAR y : INT AT OUT 4 ;": 0,
		"VAR x : INT AT OUT 1 ; VAR y : BOOL AT OUT 1 ;": api.Slot, "VAR x : INT ( 0 .. 5 ) AT IN 1 ;": api.Kind, "VAR x : ARRAY [ 2 ] OF INT AT IN 1 ;": api.Kind, "VAR x : TON AT OUT 1 ;": api.Kind, "VAR x : REF_TO A AT IN 1 ; ": api.Kind,
		"VAR x : BOOL := 2 AT IN 9 ;": api.Init, "VAR x : Q AT IN 9 ;": api.Kind, "VAR x : INT AT IN 9 ; VAR x : INT ;": api.Slot, "VAR x : INT ; VAR x : INT ; EXIT ;": api.Twice, "EXIT ;": api.Typing, "q := 1 ;": api.Unknown, "VAR o : A ; o . M ( ) ;": api.Call, "VAR x : INT AT IN 0 ; x := 1 ;": api.Typing,
	} {
		last(t, "P8.2", code, other+ahead+"PROGRAM Q ; "+body+" END_PROGRAM")
	}
	u := read(t, "PROGRAM Q ; VAR x : INT ; END_PROGRAM")
	for dir, code := range map[int]int{-1: api.Kind, 0: 0, 1: api.Slot, 2: api.Slot, 3: api.Kind} {
		u.Decls[0].Vars[0].Dir, u.Decls[0].Vars[0].Slot = dir, -1
		if got := Decl(u, 0); got != code {
			t.Errorf("P8.2: Dir %d: %d", dir, got)
		}
	}
	twice := read(t, other+"PROGRAM Q ; VAR x : INT AT OUT 3 ; END_PROGRAM")
	if Decl(twice, 0) != api.Fine || Decl(twice, 1) != api.Slot {
		t.Error("P8.2: the first of two with one slot")
	}
}

func TestTasks(t *testing.T) {
	for task, code := range map[string]int{"( INTERVAL 1 , PRIORITY 0 ) : P": 0, "( INTERVAL 100 , PRIORITY 9 ) : P": 0, "( INTERVAL 0 , PRIORITY 0 ) : P": api.Task, "( INTERVAL 101 , PRIORITY 0 ) : P": api.Task, "( INTERVAL 1 , PRIORITY 10 ) : P": api.Task,
		"( INTERVAL 1 , PRIORITY 0 ) : X": api.Task, "( INTERVAL 1 , PRIORITY 0 ) : A": api.Task, "( INTERVAL 1 , PRIORITY 0 ) : T": api.Task, "( INTERVAL 1 , PRIORITY 0 ) : O": api.Task} {
		last(t, "P8.2", code, ahead+"PROGRAM O ; END_PROGRAM TASK S ( INTERVAL 0 , PRIORITY 0 ) : O ; TASK T "+task+" ;")
	}
	u := read(t, "TASK T ( INTERVAL 1 , PRIORITY 0 ) : P ;")
	if got := Unit(u); !slices.Equal(got, []api.Wrong{{Code: api.Task, At: 0}}) {
		t.Errorf("P8.3: %v", got)
	}
	behind := read(t, "TASK T ( INTERVAL 1 , PRIORITY 0 ) : P ; PROGRAM P ; END_PROGRAM TASK S ( INTERVAL 1 , PRIORITY 0 ) : P ;")
	if got := Unit(behind); !slices.Equal(got, []api.Wrong{{Code: api.Task, At: 0}, {Code: api.Task, At: 2}}) {
		t.Errorf("P8.3: %v", got)
	}
	behind.Decls[0].Every, behind.Decls[0].First = -1, -1
	behind.Decls[2].First = -1
	if got := Decl(behind, 2); got != api.Task {
		t.Errorf("P8.2: %v", got)
	}
}

func TestLargeUnits(t *testing.T) {
	var u api.Unit
	for i := range 30000 {
		n := strconv.Itoa(i)
		u.Decls = append(u.Decls, api.Decl{Kind: api.Class, Name: "C" + n, Base: "C" + strconv.Itoa(i+1), Methods: []api.Method{{Name: "M" + n}}})
	}
	u.Decls[1].Base = ""
	u.Decls[2].Base = "C0"
	if got := Unit(u); len(got) != 29998 {
		t.Errorf("R1: %d", len(got))
	}
}
