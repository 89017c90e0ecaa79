package syntax

import (
	"reflect"
	"slices"
	"strings"
	"testing"

	"governor/api"
	"governor/diag"
	"governor/lex"
)

func num(n int) api.Expr            { return api.Expr{Kind: api.Num, N: n} }
func name(s string) api.Expr        { return api.Expr{Kind: api.Name, Name: s} }
func neg(e api.Expr) api.Expr       { return api.Expr{Kind: api.Neg, Args: []api.Expr{e}} }
func not(e api.Expr) api.Expr       { return api.Expr{Kind: api.Not, Args: []api.Expr{e}} }
func of(kind int) api.Expr          { return api.Expr{Kind: kind} }
func intType() api.Type             { return api.Type{Kind: api.Int} }
func body(l ...api.Stmt) []api.Stmt { return l }

func bin(op int, a api.Expr, b api.Expr) api.Expr {
	return api.Expr{Kind: api.Bin, N: op, Args: []api.Expr{a, b}}
}

func invoke(on int, name string, what string, args ...api.Expr) api.Expr {
	return api.Expr{Kind: api.Invoke, N: on, Name: name, What: what, Args: args}
}

func stmt(kind int, name string, exprs ...api.Expr) api.Stmt {
	return api.Stmt{Kind: kind, Name: name, Exprs: exprs}
}

func TestExprTrees(t *testing.T) {
	for src, want := range map[string]api.Expr{
		"32768": num(32768), "TRUE": of(api.True), "FALSE": of(api.False), "NULL": of(api.Null), "x": name("x"),
		"- x": neg(name("x")), "NOT x": not(name("x")), "((x))": name("x"), "- ( - 1 )": neg(neg(num(1))),
		"a[1]":               {Kind: api.Index, Name: "a", Args: []api.Expr{num(1)}},
		"REF(i)":             {Kind: api.RefOf, Name: "i"},
		"DONE(t)":            {Kind: api.Out, Name: "t"},
		"COUNT(t)":           {Kind: api.Count, Name: "t"},
		"AS C(r)":            {Kind: api.As, Name: "C", Args: []api.Expr{name("r")}},
		"o.M()":              invoke(0, "o", "M"),
		"THIS.M(1, x)":       invoke(1, "", "M", num(1), name("x")),
		"SUPER.M(1,2,3)":     invoke(2, "", "M", num(1), num(2), num(3)),
		"(a+1)*2":            bin(api.Mul, bin(api.Add, name("a"), num(1)), num(2)),
		"a[1]+o.M(- 1)":      bin(api.Add, api.Expr{Kind: api.Index, Name: "a", Args: []api.Expr{num(1)}}, invoke(0, "o", "M", neg(num(1)))),
		"NOT ( a AND b )":    not(bin(api.And, name("a"), name("b"))),
		"(*c*)a(*c*)-(*c*)1": bin(api.Sub, name("a"), num(1)),
	} {
		got, err := Expr(src)
		if err != nil || !reflect.DeepEqual(got, want) {
			t.Errorf("P4.1: %s: %v, %v", src, got, err)
		}
	}
	for i, op := range strings.Fields("+ - * / MOD = <> < <= > >= AND OR XOR") {
		got, err := Expr("a " + op + " 2")
		if err != nil || !reflect.DeepEqual(got, bin(i+1, name("a"), num(2))) {
			t.Errorf("P4.1: %s: %v, %v", op, got, err)
		}
	}
}

func TestStmtTrees(t *testing.T) {
	exit := stmt(api.Exit, "")
	for src, want := range map[string]api.Stmt{
		"x := 1 ;":                          stmt(api.Assign, "x", num(1)),
		"x [ 1 ] := y ;":                    stmt(api.Put, "x", num(1), name("y")),
		"x ?= y ;":                          stmt(api.Attempt, "x", name("y")),
		"x . M ( ) ;":                       stmt(api.Do, "", invoke(0, "x", "M")),
		"THIS.M(1) ;":                       stmt(api.Do, "", invoke(1, "", "M", num(1))),
		"SUPER.M() ;":                       stmt(api.Do, "", invoke(2, "", "M")),
		"RETURN ;":                          stmt(api.Return, ""),
		"RETURN - 1 ;":                      stmt(api.Return, "", neg(num(1))),
		"EXIT ;":                            exit,
		"STEP t(a, 1);":                     stmt(api.Step, "t", name("a"), num(1)),
		"WHILE a DO EXIT; EXIT; END_WHILE;": {Kind: api.While, Exprs: []api.Expr{name("a")}, Blocks: [][]api.Stmt{body(exit, exit)}},
		"FOR i := 1 TO n BY - 2 DO END_FOR;": {Kind: api.For, N: -2, Name: "i", Exprs: []api.Expr{num(1), name("n")},
			Blocks: [][]api.Stmt{nil}},
		"IF a THEN END_IF;":            {Kind: api.If, Exprs: []api.Expr{name("a")}, Blocks: [][]api.Stmt{nil, nil}},
		"IF a THEN EXIT; ELSE END_IF;": {Kind: api.If, Exprs: []api.Expr{name("a")}, Blocks: [][]api.Stmt{body(exit), nil}},
		"IF a THEN ELSIF b THEN EXIT; ELSE EXIT; EXIT; END_IF;": {Kind: api.If, Exprs: []api.Expr{name("a"), name("b")},
			Blocks: [][]api.Stmt{nil, body(exit), body(exit, exit)}},
		"CASE a OF END_CASE;":            {Kind: api.Case, Exprs: []api.Expr{name("a")}, Blocks: [][]api.Stmt{nil}},
		"CASE a OF ELSE EXIT; END_CASE;": {Kind: api.Case, Exprs: []api.Expr{name("a")}, Blocks: [][]api.Stmt{body(exit)}},
		"CASE a OF 1, - 2: EXIT; - 3: 4: ELSE END_CASE;": {Kind: api.Case, Exprs: []api.Expr{name("a")},
			Labels: [][]int{{1, -2}, {-3}, {4}}, Blocks: [][]api.Stmt{body(exit), nil, nil, nil}},
	} {
		u, places, err := Parse("PROGRAM P ; " + src + " END_PROGRAM")
		if err != nil || len(u.Decls) != 1 || !slices.Equal(places, []int{0}) || !reflect.DeepEqual(u.Decls[0].Body, body(want)) {
			t.Errorf("P4.1: %s: %v, %v, %v", src, u, places, err)
		}
	}
}

func TestTypes(t *testing.T) {
	for src, want := range map[string]api.Type{
		"INT": intType(), "BOOL": {Kind: api.Bool}, "INT ( - 5 .. 7 )": {Kind: api.Range, Lo: -5, Hi: 7},
		"INT(9..- 2)": {Kind: api.Range, Lo: 9, Hi: -2}, "ARRAY [ 7 ] OF INT": {Kind: api.Array, Hi: 7},
		"REF_TO C": {Kind: api.Ref, Name: "C"}, "C": {Kind: api.Inst, Name: "C"},
		"TON": {Kind: api.Timer, Lo: 1}, "TOF": {Kind: api.Timer, Lo: 2}, "TP": {Kind: api.Timer, Lo: 3},
		"CTU": {Kind: api.Timer, Lo: 4}, "CTD": {Kind: api.Timer, Lo: 5}, "R_TRIG": {Kind: api.Timer, Lo: 6}, "F_TRIG": {Kind: api.Timer, Lo: 7},
	} {
		u, _, err := Parse("PROGRAM P ; VAR x : " + src + " ; END_PROGRAM")
		if err != nil || !reflect.DeepEqual(u.Decls[0].Vars, []api.Var{{Name: "x", Type: want}}) {
			t.Errorf("P4.1: %s: %v, %v", src, u, err)
		}
		u, _, err = Parse("INTERFACE I ; METHOD M ( a : " + src + " ) : " + src + " ; END_INTERFACE")
		if err != nil || !reflect.DeepEqual(u.Decls[0].Methods, []api.Method{{Name: "M", Params: []api.Var{{Name: "a", Type: want}}, Result: want}}) {
			t.Errorf("P4.1: %s: %v, %v", src, u, err)
		}
	}
}

func TestUnit(t *testing.T) {
	src := "INTERFACE I ; METHOD M ( ) ; END_INTERFACE\n CLASS ABSTRACT A EXTENDS B IMPLEMENTS I , J ; VAR v : INT := - 3 ;" +
		" METHOD OVERRIDE ABSTRACT FINAL M ( a : INT , b : BOOL ) : INT ; VAR w : INT := 4 ; EXIT ; END_METHOD METHOD N ( ) ; END_METHOD END_CLASS" +
		" CLASS FINAL C ; END_CLASS PROGRAM P ; VAR x : INT AT IN 3 ; VAR y : BOOL := 1 AT OUT 5 ; END_PROGRAM" +
		" TASK T ( INTERVAL 10 , PRIORITY 2 ) : P ;"
	want := api.Unit{Decls: []api.Decl{
		{Kind: api.Interface, Name: "I", Methods: []api.Method{{Name: "M"}}},
		{Kind: api.Class, Name: "A", Base: "B", Faces: []string{"I", "J"}, Abstract: true, Vars: []api.Var{{Name: "v", Type: intType(), Init: -3}},
			Methods: []api.Method{{Name: "M", Over: true, Abstract: true, Final: true, Result: intType(),
				Params: []api.Var{{Name: "a", Type: intType()}, {Name: "b", Type: api.Type{Kind: api.Bool}}},
				Vars:   []api.Var{{Name: "w", Type: intType(), Init: 4}}, Body: body(stmt(api.Exit, ""))}, {Name: "N"}}},
		{Kind: api.Class, Name: "C", Final: true},
		{Kind: api.Program, Name: "P", Vars: []api.Var{{Name: "x", Type: intType(), Dir: 1, Slot: 3},
			{Name: "y", Type: api.Type{Kind: api.Bool}, Init: 1, Dir: 2, Slot: 5}}},
		{Kind: api.TaskOf, Name: "T", Base: "P", Every: 10, First: 2},
	}}
	u, places, err := Parse(src)
	if err != nil || !reflect.DeepEqual(u, want) {
		t.Errorf("P4.1: %v, %v", u, err)
	}
	var at []int
	for _, word := range []string{"INTERFACE I", "CLASS ABSTRACT", "CLASS FINAL", "PROGRAM P", "TASK"} {
		at = append(at, strings.Index(src, word))
	}
	if !slices.Equal(places, at) {
		t.Errorf("P4.2: %v, want %v", places, at)
	}
	if u, places, err := Parse(" (* nothing *) "); err != nil || len(u.Decls) != 0 || len(places) != 0 {
		t.Error("P4.2: nothing")
	}
}

// told reads a source with a mark at the place of what is wrong with it.
func told(t *testing.T, promise string, marked string, code int, read func(string) error) {
	t.Helper()
	at := strings.Index(marked, "^")
	src := strings.Replace(marked, "^", "", 1)
	got, place, ok := diag.Find(read(src))
	if at < 0 && !ok {
		return
	}
	if at < 0 {
		t.Errorf("%s: %.150s: %d at %d", promise, marked, got, place)
		return
	}
	if got != code || place != at {
		t.Errorf("%s: %.150s: %d at %d, want %d at %d", promise, marked, got, place, code, at)
	}
}

func unitError(src string) error {
	u, places, err := Parse(src)
	if err != nil && (u.Decls != nil || places != nil) {
		panic("R2")
	}
	return err
}

func exprError(src string) error {
	e, err := Expr(src)
	if err != nil && !reflect.DeepEqual(e, api.Expr{}) {
		panic("R2")
	}
	return err
}

func TestSyntaxErrors(t *testing.T) {
	for _, src := range []string{"^x", "CLASS ^;", "CLASS FINAL ^ABSTRACT C ; END_CLASS", "CLASS C EXTENDS ^; END_CLASS", "CLASS C IMPLEMENTS I , ^; END_CLASS",
		"CLASS C ^IN", "CLASS C ; METHOD M ( ) ; END_METHOD ^VAR x : INT ; END_CLASS", "CLASS C ; METHOD FINAL ^OVERRIDE M ( ) ; END_METHOD END_CLASS",
		"INTERFACE I ; METHOD ^OVERRIDE M ( ) ; END_INTERFACE", "INTERFACE I ; METHOD M ( ) ; ^VAR x : INT ; END_INTERFACE",
		"INTERFACE I ; METHOD M ( a : INT ^:= 1 ) ; END_INTERFACE", "INTERFACE I ; METHOD M ( a : INT , ^) ; END_INTERFACE",
		"PROGRAM P ; ^METHOD", "PROGRAM P ; VAR x ^; END_PROGRAM", "PROGRAM P ; VAR x : ^5 ; END_PROGRAM", "PROGRAM P ; VAR x : INT := ^x ; END_PROGRAM",
		"PROGRAM P ; VAR x : INT := - ^- 1 ; END_PROGRAM", "PROGRAM P ; VAR x : INT AT ^5 ; END_PROGRAM", "PROGRAM P ; VAR x : INT AT IN ^- 1 ; END_PROGRAM",
		"PROGRAM P ; VAR x : INT AT IN 1 ^:= 2 ; END_PROGRAM", "PROGRAM P ; VAR x : INT ( 1 ^, 2 ) ; END_PROGRAM", "PROGRAM P ; VAR x : ARRAY [ ^- 1 ] OF INT ; END_PROGRAM",
		"PROGRAM P ; VAR x : ARRAY [ 1 ] OF ^BOOL ; END_PROGRAM", "PROGRAM P ; VAR x : REF_TO ^INT ; END_PROGRAM", "PROGRAM P ; x := 1 ; ^VAR y : INT ; END_PROGRAM",
		"TASK T ( INTERVAL ^- 1 , PRIORITY 0 ) : P ;", "TASK T ( INTERVAL 1 , ^INTERVAL 0 ) : P ;", "TASK T ( INTERVAL 1 , PRIORITY 0 ) : P ^x",
		"PROGRAM P ; END_PROGRAM ^;", "PROGRAM P ; x ^+ 1 ; END_PROGRAM", "PROGRAM P ; x ^; END_PROGRAM", "PROGRAM P ; x . y ^:= 1 ; END_PROGRAM",
		"PROGRAM P ; ^5 ; END_PROGRAM", "PROGRAM P ; ^NOT x ; END_PROGRAM", "PROGRAM P ; x := 1 ^END_PROGRAM", "PROGRAM P ; x := ^; END_PROGRAM",
		"PROGRAM P ; THIS ^; END_PROGRAM", "PROGRAM P ; THIS . M ^; END_PROGRAM", "PROGRAM P ; RETURN 1 ^2 ; END_PROGRAM", "PROGRAM P ; EXIT ^1 ; END_PROGRAM",
		"PROGRAM P ; IF a ^DO END_IF ; END_PROGRAM", "PROGRAM P ; IF a THEN ELSE ^ELSIF a THEN END_IF ; END_PROGRAM", "PROGRAM P ; IF a THEN ^END_CASE ; END_PROGRAM",
		"PROGRAM P ; IF a THEN END_IF ^END_PROGRAM", "PROGRAM P ; CASE a OF ^x : END_CASE ; END_PROGRAM", "PROGRAM P ; CASE a OF 1 , ^: END_CASE ; END_PROGRAM",
		"PROGRAM P ; CASE a OF 1 : ELSE ^2 : END_CASE ; END_PROGRAM", "PROGRAM P ; CASE a OF - ^- 1 : END_CASE ; END_PROGRAM", "PROGRAM P ; CASE a OF 1 : 2 ^; END_CASE ; END_PROGRAM",
		"PROGRAM P ; WHILE a DO ^5 END_WHILE ; END_PROGRAM", "PROGRAM P ; FOR i := 1 TO 2 ^DO END_FOR ; END_PROGRAM", "PROGRAM P ; FOR i := 1 TO 2 BY ^x DO END_FOR ; END_PROGRAM",
		"PROGRAM P ; FOR i ^[ 1 ] := 1 TO 2 BY 1 DO END_FOR ; END_PROGRAM", "PROGRAM P ; STEP t ( a ^) ; END_PROGRAM", "PROGRAM P ; STEP t ( a , 1 ^, 2 ) ; END_PROGRAM",
		"PROGRAM P ; x [ 1 ] ^?= a ; END_PROGRAM", "PROGRAM P ; x [ ^] := a ; END_PROGRAM",
	} {
		told(t, "P4.2", src, api.Syntax, unitError)
	}
	for _, src := range []string{"^", "1 ^2", "a + b ^+ c", "- a ^+ b", "- ^- a", "a + ^- b", "NOT ^NOT a", "( a ^", "( ^)", "a . ^5", "a . b ^+", "o . M ( 1 , ^)",
		"o . M ( ^, ", "REF ( ^THIS )", "REF ^x", "AS ^( x )", "AS C ( ^)", "DONE ( x ^+ 1 )", "a ^:= 1", "a [ 1 ] ^[ 2 ]", "a [ 1 ^", "THIS ^", "^AND", "^;"} {
		told(t, "P4.2", src, api.Syntax, exprError)
	}
}

func TestTruncated(t *testing.T) {
	src := "INTERFACE I ; METHOD M ( a : REF_TO I ) : INT ; END_INTERFACE CLASS ABSTRACT A EXTENDS B IMPLEMENTS I , J ; VAR v : INT ( 1 .. - 3 ) := - 3 ;" +
		" METHOD OVERRIDE M ( a : INT ) : INT ; IF a THEN x [ 1 ] := - ( 1 + 2 ) ; ELSIF a THEN CASE x OF 1 , - 2 : o . M ( 1 , 2 ) ; ELSE EXIT ; END_CASE ; END_IF ;" +
		" FOR i := 1 TO 3 BY - 1 DO WHILE NOT a DO r ?= AS C ( REF ( x ) ) ; END_WHILE ; END_FOR ; RETURN THIS . M ( ) ; STEP t ( DONE ( t ) , 5 ) ; END_METHOD END_CLASS" +
		" PROGRAM P ; VAR a : ARRAY [ 3 ] OF INT AT IN 3 ; END_PROGRAM TASK T ( INTERVAL 10 , PRIORITY 2 ) : P ;"
	tokens, err := lex.All(src)
	if err != nil || unitError(src) != nil {
		t.Fatal(err, unitError(src))
	}
	whole := 0
	for _, token := range tokens {
		err := unitError(src[:token.At])
		if err == nil {
			whole++
			continue
		}
		code, at, _ := diag.Find(err)
		if code != api.Syntax || at != token.At {
			t.Errorf("P4.2: cut ahead of %v: %d at %d", token, code, at)
		}
	}
	if whole != 4 {
		t.Errorf("P4.2: %d cuts are sources", whole)
	}
}

func TestLexErrors(t *testing.T) {
	for _, c := range []struct {
		src  string
		code int
	}{{"x $", api.Lex}, {"PROGRAM P ; VAR x : REAL ; END_PROGRAM", api.Real}, {"; ; ; 99999", api.Lex}, {strings.Repeat("x", 7000), api.Size}, {strings.Repeat("; ", 1501), api.Size}} {
		_, lexed := lex.All(c.src)
		code, at, _ := diag.Find(lexed)
		if code != c.code {
			t.Fatalf("%.20s: %v", c.src, lexed)
		}
		for _, err := range []error{unitError(c.src), exprError(c.src)} {
			if got, place, _ := diag.Find(err); got != code || place != at {
				t.Errorf("P4.2: %.20s: %v, want %v", c.src, err, lexed)
			}
		}
	}
}

func nested(n int, inner string) string {
	return strings.Repeat("( ", n) + inner + strings.Repeat(" )", n)
}

func program(body string) string { return "PROGRAM P ; " + body + " END_PROGRAM" }

func TestDeepExprs(t *testing.T) {
	for _, src := range []string{nested(5, "a"), nested(4, "a [ 1 ]"), nested(6, "^a"), nested(6, "^- a"), nested(6, "^( a )"),
		nested(6, "^THIS . M ( )"), nested(5, "a [ ^1 ]"), nested(5, "o . M ( ^1 )"), nested(4, "o . M ( 1 )"), nested(5, "o . M ( )"), nested(5, "AS C ( ^a )"),
		nested(4, "AS C ( a )"), nested(5, "REF ( a )"), "1 + " + nested(6, "^a"), "- " + nested(5, "a"), "- " + nested(6, "^a"),
		"a [ a [ a [ a [ a [ a [ ^a ] ] ] ] ] ]", "a [ a [ a [ a [ a [ a ] ] ] ] ]"} {
		told(t, "P4.2", src, api.Deep, exprError)
	}
	told(t, "P4.2", nested(6, "^;"), api.Syntax, exprError)
	told(t, "P4.2", "( ( ( ( ( ( ^", api.Syntax, exprError)
	told(t, "P4.2", "( ( ( ( ( ( ^a", api.Deep, exprError)
	for _, src := range []string{"x := " + nested(6, "^a") + " ;", "x := " + nested(5, "a") + " ;", "x [ " + nested(6, "^a") + " ] := 1 ;", "x [ 1 ] := " + nested(6, "^a") + " ;",
		"o . M ( " + nested(5, "^a") + " ) ;", "o . M ( " + nested(4, "a") + " ) ;", "THIS . M ( " + nested(5, "^a") + " ) ;", "RETURN " + nested(6, "^a") + " ;",
		"IF a THEN ELSIF " + nested(6, "^a") + " THEN END_IF ;", "STEP t ( a , " + nested(6, "^a") + " ) ;", "FOR i := 1 TO " + nested(6, "^a") + " BY 1 DO END_FOR ;",
		"IF a THEN IF a THEN x := " + nested(5, "a") + " ; END_IF ; END_IF ;"} {
		told(t, "P4.2", program(src), api.Deep, unitError)
	}
}

func TestDeepLists(t *testing.T) {
	open, shut := "IF a THEN ", " END_IF ;"
	in := func(n int, inner string) string {
		return program(strings.Repeat(open, n) + inner + strings.Repeat(shut, n))
	}
	for _, src := range []string{in(5, "x := 1 ;"), in(5, ""), in(6, "^x := 1 ;"), in(6, "^THIS . M ( ) ;"), in(6, "^EXIT ;"), in(5, "IF a THEN ^ELSIF a THEN END_IF ;"),
		in(5, "IF a THEN ^ELSE END_IF ;"), in(5, "IF a THEN ^END_IF ;"), in(5, "CASE a OF 1 : ^END_CASE ;"), in(5, "CASE a OF 1 : ^2 : END_CASE ;"), in(5, "CASE a OF 1 : ^- 2 : END_CASE ;"),
		in(5, "CASE a OF 1 : ^ELSE END_CASE ;"), in(5, "CASE a OF ELSE ^END_CASE ;"), in(5, "CASE a OF END_CASE ;"), in(5, "WHILE a DO ^END_WHILE ;"), in(5, "FOR i := 1 TO 2 BY 1 DO ^x := 1 ;  END_FOR ;"),
		in(4, "WHILE a DO x := 1 ; END_WHILE ;")} {
		told(t, "P4.2", src, api.Deep, unitError)
	}
	told(t, "P4.2", "CLASS C ; METHOD M ( ) ; "+strings.Repeat(open, 6)+"^x := 1 ;", api.Deep, unitError)
}

func TestSizes(t *testing.T) {
	r := strings.Repeat
	for _, src := range []string{
		r("CLASS C ; END_CLASS ", 12), r("CLASS C ; END_CLASS ", 12) + "^TASK", r("CLASS C ; END_CLASS ", 12) + "^PROGRAM P",
		"CLASS C ; " + r("METHOD M ( ) ; END_METHOD ", 6) + "END_CLASS", "CLASS C ; " + r("METHOD M ( ) ; END_METHOD ", 6) + "^METHOD",
		"INTERFACE C ; " + r("METHOD M ( ) ; ", 6) + "END_INTERFACE", "INTERFACE C ; " + r("METHOD M ( ) ; ", 6) + "^METHOD END_INTERFACE",
		"INTERFACE C ; METHOD M ( a : INT" + r(", a : INT", 2) + " ) ; END_INTERFACE", "INTERFACE C ; METHOD M ( a : INT" + r(", a : INT", 2) + " , ^a : INT ) ; END_INTERFACE",
		"CLASS C ; " + r("VAR x : INT ; ", 8) + "END_CLASS", "CLASS C ; " + r("VAR x : INT ; ", 8) + "^VAR",
		program(r("VAR x : INT ; ", 8)), program(r("VAR x : INT ; ", 8) + "^VAR x : INT ;"), "CLASS C ; METHOD M ( ) ; " + r("VAR x : INT ; ", 8) + "^VAR",
		program(r("EXIT ; ", 24)), program(r("EXIT ; ", 24) + "^EXIT"), program(r("EXIT ; ", 24) + "^x"), program("IF a THEN " + r("EXIT ; ", 24) + "ELSE " + r("EXIT ; ", 24) + "^IF"),
		program("o . M ( 1 , 2 , 3 ) ;"), program("o . M ( 1 , 2 , 3 , ^4 ) ;"), program("x := o . M ( 1 , 2 , 3 , ^- 4 ) ;"),
		"CLASS C IMPLEMENTS I , I , I , I ; END_CLASS", "CLASS C IMPLEMENTS I , I , I , I , ^I ; END_CLASS",
		program("CASE a OF 1" + r(" , 1", 7) + " : END_CASE ;"), program("CASE a OF 1" + r(" , 1", 7) + " , ^- 1 : END_CASE ;"), program("CASE a OF 1" + r(" , 1", 7) + " , ^1 : END_CASE ;"),
		program("CASE a OF " + r("1 : ", 6) + " ELSE END_CASE ;"), program("CASE a OF " + r("1 : ", 6) + " ^1 : END_CASE ;"), program("CASE a OF " + r("1 : ", 6) + " ^- 1 : END_CASE ;"),
		program("IF a THEN " + r("ELSIF a THEN ", 5) + "ELSE END_IF ;"), program("IF a THEN " + r("ELSIF a THEN ", 5) + "^ELSIF a THEN END_IF ;"),
	} {
		told(t, "P4.2", src, api.Size, unitError)
	}
	told(t, "P4.2", program("o . M ( 1 , 2 , 3 , ^) ;"), api.Syntax, unitError)
	told(t, "P4.2", program(r("EXIT ; ", 24)+"^END_IF"), api.Syntax, unitError)
	told(t, "P4.2", "CLASS C ; "+r("VAR x : INT ; ", 8)+"^x", api.Syntax, unitError)
	told(t, "P4.2", "PROGRAM P ; o . M ( 1 , 2 , 3 , ^", api.Syntax, unitError)
	// What is wrong first is told, whatever else is wrong behind it.
	told(t, "P4.2", program(r("EXIT ; ", 24)+"^EXIT EXIT"), api.Size, unitError)
	told(t, "P4.2", program(r("EXIT ; ", 23)+"EXIT ^EXIT ; EXIT ; EXIT ;"), api.Syntax, unitError)
}

// TestEachPlace holds of each place of an expression, and of a list, how deeply it may be nested.
func TestEachPlace(t *testing.T) {
	for _, place := range []string{"x := % ;", "x [ % ] := 1 ;", "x [ 1 ] := % ;", "r ?= % ;", "RETURN % ;", "IF % THEN END_IF ;", "IF a THEN ELSIF % THEN END_IF ;", "CASE % OF END_CASE ;", "WHILE % DO END_WHILE ;",
		"FOR i := % TO 1 BY 1 DO END_FOR ;", "FOR i := 1 TO % BY 1 DO END_FOR ;", "STEP t ( % , 1 ) ;", "STEP t ( a , % ) ;", "IF a THEN IF a THEN x := % ; END_IF ; END_IF ;"} {
		told(t, "P4.2", program(strings.Replace(place, "%", nested(5, "a"), 1)), api.Fine, unitError)
		told(t, "P4.2", program(strings.Replace(place, "%", nested(6, "^a"), 1)), api.Deep, unitError)
	}
	for _, place := range []string{"o . M ( % ) ;", "THIS . M ( % ) ;", "SUPER . M ( 1 , % ) ;", "x := - ( % ) ;", "x := 1 + a [ % ] ;", "x := AS C ( % ) ;", "x := o . M ( % ) ;", "x := NOT SUPER . M ( 1 , 2 , % ) ;"} {
		told(t, "P4.2", program(strings.Replace(place, "%", nested(4, "a"), 1)), api.Fine, unitError)
		told(t, "P4.2", program(strings.Replace(place, "%", nested(5, "^a"), 1)), api.Deep, unitError)
	}
	for _, place := range []string{"IF a THEN % END_IF ;", "IF a THEN ELSIF a THEN % END_IF ;", "IF a THEN ELSE % END_IF ;", "CASE a OF 1 : % END_CASE ;", "CASE a OF 1 : 2 : % ELSE END_CASE ;", "CASE a OF ELSE % END_CASE ;", "WHILE a DO % END_WHILE ;", "FOR i := 1 TO 2 BY 1 DO % END_FOR ;"} {
		open, shut, _ := strings.Cut(place, "%")
		at := func(n int, inner string) string {
			return program(strings.Repeat("WHILE a DO ", n) + open + inner + shut + strings.Repeat(" END_WHILE ;", n))
		}
		told(t, "P4.2", at(4, "x := 1 ;"), api.Fine, unitError)
		if !strings.HasPrefix(place, "IF a THEN E") && !strings.HasPrefix(place, "CASE a OF 1 : 2") {
			told(t, "P4.2", at(5, "^x := 1 ;"), api.Deep, unitError)
		}
		method := strings.Replace(at(4, "x := 1 ;"), "PROGRAM P ;", "CLASS C ; METHOD M ( ) ;", 1)
		told(t, "P4.2", strings.Replace(method, "END_PROGRAM", "END_METHOD END_CLASS", 1), api.Fine, unitError)
	}
}
