package print

import (
	"math"
	"math/rand"
	"reflect"
	"strings"
	"testing"

	"governor/api"
	"governor/diag"
	"governor/syntax"
)

func num(n int) api.Expr     { return api.Expr{Kind: api.Num, N: n} }
func name(s string) api.Expr { return api.Expr{Kind: api.Name, Name: s} }

func ex(kind int, n int, name string, args ...api.Expr) api.Expr {
	return api.Expr{Kind: kind, N: n, Name: name, Args: args}
}

func TestExpr(t *testing.T) {
	sum := ex(api.Bin, api.Add, "", name("a"), num(1))
	call := api.Expr{Kind: api.Invoke, Name: "o", What: "M"}
	for _, c := range []struct {
		e    api.Expr
		want string
	}{
		{num(0), "0"}, {num(-5), "- 5"}, {num(32768), "32768"}, {num(math.MinInt), "- 9223372036854775808"}, {num(math.MaxInt), "9223372036854775807"},
		{ex(api.True, 0, ""), "TRUE"}, {ex(api.False, 0, ""), "FALSE"}, {ex(api.Null, 0, ""), "NULL"}, {name("x"), "x"},
		{ex(api.Index, 0, "a", sum), "a [ a + 1 ]"}, {ex(api.Index, 0, "a"), "a [ ? ]"}, {ex(api.Index, 0, "a", num(1), num(2)), "a [ 1 ]"},
		{ex(api.Neg, 0, "", sum), "- ( a + 1 )"}, {ex(api.Neg, 0, "", ex(api.Neg, 0, "", num(1))), "- ( - 1 )"}, {ex(api.Neg, 0, "", num(-1)), "- - 1"},
		{ex(api.Not, 0, "", ex(api.Not, 0, "", name("a"))), "NOT ( NOT a )"}, {ex(api.Not, 0, "", ex(api.Index, 0, "a", sum)), "NOT a [ a + 1 ]"},
		{ex(api.Neg, 0, ""), "- ?"}, {ex(api.Not, 0, "", name("a"), name("b")), "NOT a"},
		{ex(api.Bin, api.Mul, "", sum, ex(api.Not, 0, "", name("b"))), "( a + 1 ) * ( NOT b )"},
		{ex(api.Bin, 0, "", sum), "( a + 1 ) ? ?"}, {ex(api.Bin, 15, ""), "? ? ?"}, {ex(api.Bin, -1, "", num(1), num(2), num(3)), "1 ? 2"},
		{ex(api.RefOf, 0, "i"), "REF ( i )"}, {ex(api.Out, 0, "t"), "DONE ( t )"}, {ex(api.Count, 0, "t"), "COUNT ( t )"},
		{ex(api.As, 0, "C", sum), "AS C ( a + 1 )"}, {ex(api.As, 0, "C"), "AS C ( ? )"}, {ex(api.Neg, 0, "", ex(api.As, 0, "C", sum)), "- AS C ( a + 1 )"},
		{call, "o . M ( )"}, {api.Expr{Kind: api.Invoke, N: 1, What: "M", Args: []api.Expr{sum, num(2)}}, "THIS . M ( a + 1 , 2 )"},
		{api.Expr{Kind: api.Invoke, N: 2, Name: "z", What: "M", Args: []api.Expr{num(1)}}, "SUPER . M ( 1 )"},
		{api.Expr{Kind: api.Invoke, N: 3, Name: "z", What: "M"}, "? . M ( )"}, {api.Expr{Kind: api.Invoke, N: -1, What: "M"}, "? . M ( )"},
		{ex(0, 0, ""), "?"}, {ex(15, 0, "x"), "?"}, {ex(-1, 0, "x"), "?"}, {ex(api.Neg, 0, "", ex(99, 0, "")), "- ?"},
	} {
		if got := Expr(c.e); got != c.want {
			t.Errorf("P5.1: %v: %q, want %q", c.e, got, c.want)
		}
	}
	for i, op := range strings.Fields("+ - * / MOD = <> < <= > >= AND OR XOR") {
		if got := Expr(ex(api.Bin, i+1, "", name("a"), name("b"))); got != "a "+op+" b" {
			t.Errorf("P5.1: %q", got)
		}
	}
}

func TestType(t *testing.T) {
	for _, c := range []struct {
		t    api.Type
		want string
	}{
		{api.Type{Kind: api.Int}, "INT"}, {api.Type{Kind: api.Bool}, "BOOL"}, {api.Type{Kind: api.Range, Lo: -5, Hi: 7}, "INT ( - 5 .. 7 )"},
		{api.Type{Kind: api.Array, Hi: 3}, "ARRAY [ 3 ] OF INT"}, {api.Type{Kind: api.Array, Hi: -3}, "ARRAY [ - 3 ] OF INT"},
		{api.Type{Kind: api.Ref, Name: "C"}, "REF_TO C"}, {api.Type{Kind: api.Inst, Name: "C"}, "C"},
		{api.Type{}, "?"}, {api.Type{Kind: 8}, "?"}, {api.Type{Kind: -1}, "?"}, {api.Type{Kind: api.Timer}, "?"}, {api.Type{Kind: api.Timer, Lo: 8}, "?"}, {api.Type{Kind: api.Timer, Lo: -1}, "?"},
	} {
		if got := Type(c.t); got != c.want {
			t.Errorf("P5.1: %v: %q, want %q", c.t, got, c.want)
		}
	}
	for i, block := range strings.Fields("TON TOF TP CTU CTD R_TRIG F_TRIG") {
		if got := Type(api.Type{Kind: api.Timer, Lo: i + 1}); got != block {
			t.Errorf("P5.1: %q, want %q", got, block)
		}
	}
}

func TestStmt(t *testing.T) {
	exit := api.Stmt{Kind: api.Exit}
	one, two := []api.Expr{num(1)}, []api.Expr{num(1), num(2)}
	b := [][]api.Stmt{{exit}, {exit, exit}, {exit}, {exit}}
	for _, c := range []struct {
		s    api.Stmt
		want string
	}{
		{api.Stmt{Kind: api.Assign, Name: "x", Exprs: two}, "x := 1 ;"}, {api.Stmt{Kind: api.Assign, Name: "x"}, "x := ? ;"},
		{api.Stmt{Kind: api.Put, Name: "x", Exprs: two}, "x [ 1 ] := 2 ;"}, {api.Stmt{Kind: api.Put, Name: "x", Exprs: one}, "x [ 1 ] := ? ;"},
		{api.Stmt{Kind: api.Attempt, Name: "x", Exprs: one}, "x ?= 1 ;"}, {api.Stmt{Kind: api.Do, Exprs: two}, "1 ;"}, {api.Stmt{Kind: api.Do}, "? ;"},
		{api.Stmt{Kind: api.If, Exprs: one, Blocks: b[:1]}, "IF 1 THEN EXIT ; END_IF ;"}, {api.Stmt{Kind: api.If, Exprs: one, Blocks: b}, "IF 1 THEN EXIT ; ELSE EXIT ; EXIT ; END_IF ;"},
		{api.Stmt{Kind: api.If, Exprs: two, Blocks: b}, "IF 1 THEN EXIT ; ELSIF 2 THEN EXIT ; EXIT ; ELSE EXIT ; END_IF ;"},
		{api.Stmt{Kind: api.If}, "IF ? THEN END_IF ;"}, {api.Stmt{Kind: api.If, Blocks: b}, "IF ? THEN EXIT ; ELSE EXIT ; EXIT ; END_IF ;"},
		{api.Stmt{Kind: api.If, Exprs: one, Blocks: [][]api.Stmt{nil, {}}}, "IF 1 THEN END_IF ;"},
		{api.Stmt{Kind: api.Case, Exprs: two, Labels: [][]int{{1, -2}, {}}, Blocks: b}, "CASE 1 OF 1 , - 2 : EXIT ; : EXIT ; EXIT ; ELSE EXIT ; END_CASE ;"},
		{api.Stmt{Kind: api.Case, Labels: [][]int{{1}, nil}, Blocks: b[:1]}, "CASE ? OF 1 : EXIT ; : END_CASE ;"},
		{api.Stmt{Kind: api.Case, Exprs: one, Blocks: b}, "CASE 1 OF ELSE EXIT ; END_CASE ;"},
		{api.Stmt{Kind: api.While, Exprs: two, Blocks: b}, "WHILE 1 DO EXIT ; END_WHILE ;"}, {api.Stmt{Kind: api.While}, "WHILE ? DO END_WHILE ;"},
		{api.Stmt{Kind: api.For, Name: "i", N: -3, Exprs: two, Blocks: b}, "FOR i := 1 TO 2 BY - 3 DO EXIT ; END_FOR ;"}, {api.Stmt{Kind: api.For, Name: "i", Exprs: one}, "FOR i := 1 TO ? BY 0 DO END_FOR ;"},
		{api.Stmt{Kind: api.Return}, "RETURN ;"}, {api.Stmt{Kind: api.Return, Exprs: two}, "RETURN 1 ;"}, {exit, "EXIT ;"},
		{api.Stmt{Kind: api.Step, Name: "t", Exprs: two}, "STEP t ( 1 , 2 ) ;"}, {api.Stmt{Kind: api.Step, Name: "t"}, "STEP t ( ? , ? ) ;"},
		{api.Stmt{}, "? ;"}, {api.Stmt{Kind: 12}, "? ;"}, {api.Stmt{Kind: -1, Name: "x", Exprs: one}, "? ;"},
	} {
		got := Unit(api.Unit{Decls: []api.Decl{{Kind: api.Program, Name: "P", Body: []api.Stmt{c.s}}}})
		if want := "PROGRAM P ; " + c.want + " END_PROGRAM\n"; got != want {
			t.Errorf("P5.1: %q, want %q", got, want)
		}
	}
}

func TestDecl(t *testing.T) {
	i := api.Type{Kind: api.Int}
	m := api.Method{Name: "M", Over: true, Abstract: true, Final: true, Params: []api.Var{{Name: "a", Type: i, Init: 3, Dir: 1}, {Name: "b", Type: i}}, Result: i,
		Vars: []api.Var{{Name: "v", Type: i, Init: -1}}, Body: []api.Stmt{{Kind: api.Exit}}}
	for _, c := range []struct {
		d    api.Decl
		want string
	}{
		{api.Decl{Kind: api.Interface, Name: "I", Base: "B", Methods: []api.Method{m, {Name: "N"}}, Vars: m.Vars, Body: m.Body}, "INTERFACE I ; METHOD M ( a : INT , b : INT ) : INT ; METHOD N ( ) ; END_INTERFACE\n"},
		{api.Decl{Kind: api.Class, Name: "C"}, "CLASS C ; END_CLASS\n"},
		{api.Decl{Kind: api.Class, Name: "C", Abstract: true, Final: true, Base: "B", Faces: []string{"I", "J"}, Vars: m.Vars, Methods: []api.Method{m, {Name: "N", Over: true, Result: api.Type{Kind: 99}}}, Body: m.Body},
			"CLASS ABSTRACT FINAL C EXTENDS B IMPLEMENTS I , J ; VAR v : INT := - 1 ; METHOD OVERRIDE ABSTRACT FINAL M ( a : INT , b : INT ) : INT ; VAR v : INT := - 1 ; EXIT ; END_METHOD METHOD OVERRIDE N ( ) : ? ; END_METHOD END_CLASS\n"},
		{api.Decl{Kind: api.Program, Name: "P", Base: "B", Methods: []api.Method{m}, Vars: []api.Var{{Name: "x", Type: i, Init: 2, Dir: 1, Slot: 3}, {Name: "y", Dir: 2, Slot: -4}, {Name: "z", Type: i, Dir: 3, Slot: 5}}},
			"PROGRAM P ; VAR x : INT := 2 AT IN 3 ; VAR y : ? AT OUT - 4 ; VAR z : INT ; END_PROGRAM\n"},
		{api.Decl{Kind: api.TaskOf, Name: "T", Base: "P", Every: 5, First: -1, Body: m.Body}, "TASK T ( INTERVAL 5 , PRIORITY - 1 ) : P ;\n"},
		{api.Decl{}, "?\n"}, {api.Decl{Kind: 5, Name: "x"}, "?\n"}, {api.Decl{Kind: -1}, "?\n"},
	} {
		if got := Unit(api.Unit{Decls: []api.Decl{c.d}}); got != c.want {
			t.Errorf("P5.1: %q, want %q", got, c.want)
		}
	}
	if got := Unit(api.Unit{}); got != "" {
		t.Errorf("P5.1: %q", got)
	}
	if got := Unit(api.Unit{Decls: make([]api.Decl, 3)}); got != "?\n?\n?\n" {
		t.Errorf("P5.1: %q", got)
	}
}

func TestDeepTrees(t *testing.T) {
	e, s := num(1), api.Stmt{Kind: api.Exit}
	for range 1000 {
		e = ex(api.Neg, 0, "", e)
		s = api.Stmt{Kind: api.While, Exprs: []api.Expr{num(1)}, Blocks: [][]api.Stmt{{s}}}
	}
	if got := Expr(e); strings.Count(got, "(") != 999 {
		t.Error("R1: a deep expression")
	}
	if got := Unit(api.Unit{Decls: []api.Decl{{Kind: api.Program, Body: []api.Stmt{s}}}}); strings.Count(got, "WHILE 1 DO") != 1000 {
		t.Error("R1: deep lists")
	}
}

// maker makes sources, with more brackets and blanks than are needed.
type maker struct{ *rand.Rand }

func (m maker) one(of ...string) string { return of[m.Intn(len(of))] }

func (m maker) name() string { return m.one("a", "b", "c_1", "Long_name_12") }

func (m maker) number() string { return m.one("0", "1", "007", "32768", "40") }

func (m maker) signed() string { return m.one("", "-", "- ") + m.number() }

func (m maker) operand(deep int) string {
	if deep >= 5 || m.Intn(2) == 0 {
		return m.one(m.number(), m.name(), "TRUE", "FALSE", "NULL", "REF("+m.name()+")", "DONE ( a )", "COUNT ( b )", "a.b()", "THIS.c_1 ( )")
	}
	in := m.expr(deep + 1)
	return m.one("("+in+")", "( "+in+" )", "a["+in+"]", "AS C ("+in+")", "SUPER.m("+in+")", "o.M(1,"+in+",a)")
}

func (m maker) expr(deep int) string {
	a, b := m.operand(deep), m.operand(deep)
	return m.one(a, "-"+a, "NOT "+a, a+m.one("+", "-", "*", "/", " MOD ", "=", "<>", "<", "<=", ">", ">=", " AND ", " OR ", " XOR ")+b)
}

func (m maker) list(deep int) string {
	text := ""
	for range m.Intn(3) {
		text += m.stmt(deep) + ";"
	}
	return text
}

func (m maker) stmt(deep int) string {
	e, f := m.expr(1), m.expr(1)
	simple := m.one("a:="+e, "a["+f+"]:="+e, "r ?= "+e, "o.M("+m.number()+")", "THIS.M()", "RETURN", "RETURN "+e, "EXIT", "STEP t("+e+","+f+")")
	if deep >= 6 || m.Intn(2) == 0 {
		return simple
	}
	l, k := m.list(deep+1), m.list(deep+1)
	return m.one("IF "+e+" THEN "+l+" END_IF", "IF "+e+" THEN "+l+" ELSIF "+f+" THEN "+k+" ELSE "+l+" END_IF", "WHILE "+e+" DO "+l+" END_WHILE",
		"CASE "+e+" OF "+m.signed()+","+m.signed()+":"+l+" "+m.signed()+":"+k+" ELSE "+l+" END_CASE", "CASE "+e+" OF END_CASE", "FOR i := "+e+" TO "+f+" BY "+m.signed()+" DO "+l+" END_FOR")
}

func (m maker) typ() string {
	return m.one("INT", "BOOL", "INT("+m.signed()+" .. "+m.signed()+")", "ARRAY["+m.number()+"] OF INT", "REF_TO "+m.name(), m.name(), "TON", "TOF", "TP", "CTU", "CTD", "R_TRIG", "F_TRIG")
}

func (m maker) vars() string {
	text := ""
	for range m.Intn(3) {
		text += "VAR " + m.name() + ":" + m.typ() + m.one("", ":="+m.signed()) + m.one("", " AT IN "+m.number(), " AT OUT "+m.number()) + ";\n"
	}
	return text
}

func (m maker) signature() string {
	return m.name() + "(" + m.one("", "a:"+m.typ(), "a:"+m.typ()+",b:"+m.typ()) + ")" + m.one("", ":"+m.typ()) + ";"
}

func (m maker) unit() string {
	text := ""
	for range m.Intn(4) {
		method := "METHOD " + m.one("", "OVERRIDE ") + m.one("", "ABSTRACT ") + m.one("", "FINAL ") + m.signature() + m.vars() + m.list(1) + " END_METHOD "
		text += m.one("INTERFACE I ; METHOD "+m.signature()+" END_INTERFACE ",
			"CLASS "+m.one("", "ABSTRACT ")+m.one("", "FINAL ")+"C "+m.one("", "EXTENDS B ")+m.one("", "IMPLEMENTS I", "IMPLEMENTS I,J")+";"+m.vars()+method+" END_CLASS ",
			"PROGRAM P;"+m.vars()+m.list(1)+" END_PROGRAM (* so *)", "TASK T ( INTERVAL "+m.number()+", PRIORITY "+m.number()+"):P;")
	}
	return text
}

func TestThereAndBack(t *testing.T) {
	m := maker{rand.New(rand.NewSource(1))}
	read := 0
	for range 3000 {
		src := m.unit()
		u, _, err := syntax.Parse(src)
		if code, _, _ := diag.Find(err); code != api.Fine {
			if code == api.Syntax || code == api.Lex {
				t.Fatalf("%v: %s", err, src)
			}
			continue
		}
		printed := Unit(u)
		again, _, err := syntax.Parse(printed)
		if code, _, _ := diag.Find(err); len(printed) > api.MaxSource {
			if code != api.Size {
				t.Errorf("P5.2: too long: %v", err)
			}
			continue
		}
		read++
		if err != nil || !reflect.DeepEqual(again, u) {
			t.Fatalf("P5.2: %v: %s: %s", err, src, printed)
		}
	}
	if read < 1000 {
		t.Errorf("only %d sources were read", read)
	}
	for range 3000 {
		src := m.expr(1)
		e, err := syntax.Expr(src)
		if err != nil {
			t.Fatalf("%v: %s", err, src)
		}
		if again, err := syntax.Expr(Expr(e)); err != nil || !reflect.DeepEqual(again, e) {
			t.Fatalf("P5.2: %v: %s: %s", err, src, Expr(e))
		}
	}
}
