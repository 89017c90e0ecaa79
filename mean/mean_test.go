package mean

import (
	"reflect"
	"strconv"
	"testing"

	"governor/api"
	"governor/diag"
	"governor/syntax"
)

func read(t *testing.T, src string) api.Unit {
	t.Helper()
	u, _, err := syntax.Parse(src)
	if err != nil {
		t.Fatal(src, err)
	}
	return u
}

func open(t *testing.T, src string) *Mem {
	t.Helper()
	m, err := New(read(t, src))
	if err != nil {
		t.Fatal(src, err)
	}
	return m
}

// told are fault and cost of a run of P, and what its variables hold that are not 0.
func told(t *testing.T, m *Mem, budget int, names ...string) string {
	t.Helper()
	fault, cost := m.Run("P", nil, 3, budget)
	text := strconv.Itoa(fault) + " " + strconv.Itoa(cost)
	for _, name := range names {
		n, ok := m.Get("P", name, 0)
		if !ok {
			t.Errorf("P11.1: Get of %s", name)
		}
		if n != 0 {
			text += " " + name + strconv.Itoa(n)
		}
	}
	return text
}

type sample struct{ body, want string }

func TestStatements(t *testing.T) {
	for _, c := range []sample{
		{"", "0 1"}, {"x := 1 / 0 ;", "4 5"}, {"x := 5 ;", "0 3 x5"}, {"x := ( 1 + 2 ) * ( - 4 ) ;", "0 8 x-12"},
		{"x := 32767 + 1 ;", "0 5 x-32768"}, {"x := 32768 ;", "0 3 x-32768"}, {"x := 7 MOD 0 ;", "4 5"}, {"y := NOT FALSE ;", "0 4 y1"}, {"y := 1 <> 2 ;", "0 5 y1"}, {"y := FALSE AND ( ( 1 / 0 ) = 1 ) ;", "4 9"}, {"y := TRUE OR ( ( 1 / 0 ) = 1 ) ;", "4 9"},
		{"g := 5 ;", "0 3 g5"}, {"g := 6 ;", "3 3"}, {"g := - 2 ; g := - 3 ;", "3 7 g-2"}, {"x := 1 ; g := 9 ; x := 2 ;", "3 5 x1"},
		{"a [ 3 ] := 8 ; x := a [ 3 ] ;", "0 7 x8"}, {"a [ 4 ] := 8 ;", "2 4"}, {"a [ - 1 ] := 8 ;", "2 5"}, {"a [ 4 ] := 1 / 0 ;", "4 6"}, {"a [ 1 / 0 ] := a [ 9 ] ;", "4 7"}, {"a [ 9 ] := a [ 9 ] ;", "2 5"}, {"x := a [ 4 ] ;", "2 4"}, {"x := a [ - 1 ] ;", "2 5"}, {"x := a [ 0 ] ;", "0 4"},
		{"IF 1 = 1 THEN x := 1 ; ELSE x := 2 ; END_IF ;", "0 7 x1"}, {"IF FALSE THEN x := 1 ; ELSIF TRUE THEN x := 2 ; ELSE x := 3 ; END_IF ; z := 1 ;", "0 8 x2 z1"}, {"IF FALSE THEN x := 1 ; ELSIF FALSE THEN x := 2 ; ELSE x := 3 ; END_IF ;", "0 6 x3"}, {"IF FALSE THEN x := 1 ; END_IF ;", "0 3"},
		{"IF TRUE THEN ELSIF ( 1 / 0 ) = 1 THEN END_IF ;", "0 3"}, {"IF FALSE THEN ELSIF ( 1 / 0 ) = 1 THEN END_IF ;", "4 8"},
		{"CASE 2 OF 1 , 3 : x := 1 ; 2 , 4 , 5 : x := 2 ; ELSE x := 3 ; END_CASE ;", "0 10 x2"}, {"CASE 7 OF 1 , 3 : x := 1 ; ELSE x := 3 ; END_CASE ;", "0 7 x3"}, {"CASE 7 OF END_CASE ;", "0 3"}, {"CASE 1 / 0 OF 1 : END_CASE ;", "4 6"}, {"CASE - 1 OF - 1 : x := 4 ; END_CASE ;", "0 7 x4"},
		{"WHILE x < 3 DO x := x + 1 ; END_WHILE ;", "0 30 x3"}, {"WHILE TRUE DO x := 1 ; EXIT ; x := 2 ; END_WHILE ; z := 1 ;", "0 9 x1 z1"}, {"WHILE TRUE DO WHILE TRUE DO EXIT ; END_WHILE ; x := 1 ; EXIT ; END_WHILE ;", "0 11 x1"}, {"WHILE FALSE DO END_WHILE ;", "0 4"},
		{"FOR x := 1 TO 3 BY 1 DO z := z + x ; END_FOR ;", "0 20 x4 z6"}, {"FOR x := 3 TO 1 BY - 2 DO z := z + 1 ; END_FOR ;", "0 15 x-1 z2"}, {"FOR x := 3 TO 1 BY 1 DO z := 1 ; END_FOR ;", "0 5 x3"}, {"FOR x := 1 TO x + 2 BY 1 DO END_FOR ;", "0 9 x3"},
		{"FOR x := 32766 TO 32767 BY 1 DO z := z + 1 ; END_FOR ;", "0 14 x32767 z2"}, {"FOR x := - 32767 TO - 32768 BY - 1 DO z := z + 1 ; END_FOR ;", "0 16 x-32768 z2"}, {"FOR x := - 1 TO 32767 BY 32768 DO z := z + 1 ; END_FOR ;", "0 15 x32767 z2"}, {"FOR x := 0 TO 32767 BY 32768 DO z := z + 1 ; END_FOR ;", "0 9 z1"},
		{"FOR x := 1 TO 9 BY 1 DO x := x + 3 ; EXIT ; END_FOR ;", "0 10 x4"}, {"FOR x := 1 TO 9 BY 3 DO x := x + 1 ; END_FOR ;", "0 20 x13"}, {"FOR x := 1 / 0 TO 2 BY 1 DO END_FOR ;", "4 6"}, {"x := 4 ; FOR x := 1 TO 2 / 0 BY 1 DO END_FOR ;", "4 8 x4"},
		{"RETURN ; x := 1 ;", "0 2"}, {"WHILE TRUE DO RETURN ; END_WHILE ; x := 1 ;", "0 5"}, {"FOR x := 1 TO 2 BY 1 DO IF TRUE THEN RETURN ; END_IF ; END_FOR ;", "0 8 x1"},
		{"WHILE TRUE DO END_WHILE ;", "6 4001"}, {"x := 5 ; WHILE TRUE DO z := 1 ; END_WHILE ;", "6 4001 x5 z1"},
		{"STEP t ( TRUE , 5 ) ; STEP t ( TRUE , 5 ) ; x := COUNT ( t ) ; y := DONE ( t ) ;", "0 11 x3"}, {"STEP t ( TRUE , 0 ) ; y := DONE ( t ) ;", "0 6 y1"}, {"STEP t ( TRUE , 1 / 0 ) ;", "4 6"}, {"STEP t ( ( 1 / 0 ) = 0 , 2 / 0 ) ;", "4 10"},
	} {
		m := open(t, "PROGRAM P ; VAR x : INT ; VAR y : BOOL ; VAR z : INT ; VAR g : INT ( - 2 .. 5 ) ; VAR a : ARRAY [ 3 ] OF INT ; VAR t : TON ; "+c.body+" END_PROGRAM")
		if got := told(t, m, 4000, "x", "y", "z", "g"); got != c.want {
			t.Errorf("P11.3: %s: %s, want %s", c.body, got, c.want)
		}
	}
}

const classes = `INTERFACE I ; METHOD Get ( ) : INT ; END_INTERFACE
CLASS A IMPLEMENTS I ; VAR n : INT := 7 ; VAR log : ARRAY [ 3 ] OF INT ; VAR next : REF_TO A ;
METHOD Get ( ) : INT ; RETURN n ; END_METHOD
METHOD Set ( v : INT ) ; n := v ; END_METHOD
METHOD Add ( v : INT ) : INT ; n := n + v ; RETURN n ; END_METHOD
METHOD Double ( ) : INT ; RETURN THIS . Get ( ) * 2 ; END_METHOD
METHOD Link ( a : REF_TO A ) : INT ; next := a ; RETURN 0 ; END_METHOD
METHOD Nothing ( ) : INT ; END_METHOD END_CLASS
CLASS B EXTENDS A ; VAR m : INT := 3 ; METHOD OVERRIDE Get ( ) : INT ; RETURN m + SUPER . Get ( ) ; END_METHOD
METHOD Vars ( p : INT , q : BOOL ) : INT ; VAR v : INT := 5 ; VAR w : ARRAY [ 2 ] OF INT ; VAR s : INT ( 1 .. 3 ) := 2 ;
w [ 1 ] := w [ 0 ] + v ; v := v + p ; p := 9 ; IF q THEN s := 4 ; END_IF ; log [ 2 ] := v ; RETURN v + ( w [ 1 ] + s ) ; END_METHOD
METHOD Fail ( p : INT ) : INT ; m := 50 ; RETURN 1 / p ; END_METHOD
METHOD Via ( ) : INT ; RETURN next . Add ( THIS . Link ( NULL ) ) ; END_METHOD END_CLASS
CLASS C ; METHOD Get ( ) : INT ; END_METHOD END_CLASS
CLASS D EXTENDS B ; METHOD OVERRIDE Get ( ) : INT ; RETURN SUPER . Get ( ) + 100 ; END_METHOD END_CLASS
PROGRAM O ; VAR k : A ; END_PROGRAM
PROGRAM P ; VAR x : INT ; VAR y : BOOL ; VAR r : REF_TO A ; VAR i : REF_TO I ; VAR b : B ; VAR a : A ; VAR c : C ; VAR d : D ; `

func TestObjects(t *testing.T) {
	for _, c := range []sample{
		{"r := REF ( b ) ; i := r ; y := r = i ;", "0 9 y1 r2 i2"}, {"y := r = NULL ;", "0 5 y1"}, {"r := REF ( a ) ; y := r <> REF ( b ) ;", "0 7 y1 r3"},
		{"x := a . Get ( ) ;", "0 5 x7"}, {"x := b . Get ( ) ;", "0 9 x10"}, {"x := d . Get ( ) ;", "0 13 x110"}, {"x := b . Double ( ) ;", "0 13 x20"}, {"r := REF ( b ) ; x := r . Double ( ) ;", "0 15 x20 r2"}, {"i := REF ( b ) ; x := i . Get ( ) ;", "0 11 x10 i2"},
		{"x := r . Get ( ) ;", "1 3"}, {"r . Set ( 1 / 0 ) ;", "4 6"}, {"r . Set ( 1 ) ;", "1 4"}, {"x := i . Get ( ) ;", "1 3"}, {"x := a . Nothing ( ) + 1 ;", "0 5 x1"},
		{"a . Set ( 9 ) ; x := a . Get ( ) ;", "0 10 x9"}, {"a . Add ( 2 ) ; x := a . Add ( a . Add ( 1 ) ) ;", "0 26 x20"}, {"x := a . Add ( 1 ) + a . Get ( ) ;", "0 14 x16"},
		{"x := b . Vars ( 4 , FALSE ) ;", "0 29 x16"}, {"x := b . Vars ( 4 , TRUE ) ;", "3 21"}, {"x := b . Fail ( 0 ) ;", "4 10"}, {"x := b . Fail ( 1 ) ;", "0 10 x1"},
		{"b . Link ( REF ( a ) ) ; x := b . Via ( ) ;", "0 24 x7"}, {"x := b . Via ( ) ;", "1 11"},
		{"r ?= NULL ;", "0 3"}, {"i := REF ( a ) ; r ?= i ;", "0 5 r3 i3"}, {"r := REF ( a ) ; i := REF ( a ) ; r ?= REF ( c ) ;", "0 7 i3"}, {"r ?= REF ( d ) ;", "0 3 r5"},
		{"r := AS B ( REF ( d ) ) ;", "0 4 r5"}, {"r := AS B ( REF ( a ) ) ;", "5 4"}, {"r := AS B ( NULL ) ;", "0 4"}, {"i := AS I ( REF ( a ) ) ;", "0 4 i3"}, {"i := AS I ( REF ( c ) ) ;", "5 4"}, {"r := AS A ( i ) ;", "0 4"},
	} {
		m := open(t, classes+c.body+" END_PROGRAM")
		if got := told(t, m, 4000, "x", "y", "r", "i"); got != c.want {
			t.Errorf("P11.4: %s: %s, want %s", c.body, got, c.want)
		}
	}
}

func TestBudgets(t *testing.T) {
	const body = "x := 1 ; b . Set ( 4 ) ; WHILE TRUE DO x := x + 1 ; END_WHILE ; END_PROGRAM"
	for _, c := range []struct {
		budget int
		want   string
	}{{-5, "6 1"}, {0, "6 1"}, {1, "6 2"}, {2, "6 3"}, {3, "6 4 x1"}, {8, "6 9 x1"}, {9, "6 10 x1"}, {11, "6 12 x1"}, {14, "6 15 x1"}, {15, "6 16 x2"}, {4000, "6 4001 x666"}, {9000, "6 4001 x666"}} {
		m := open(t, classes+body)
		if got := told(t, m, c.budget, "x"); got != c.want {
			t.Errorf("P11.2: budget %d: %s, want %s", c.budget, got, c.want)
		}
	}
	exact := open(t, "PROGRAM P ; VAR x : INT ; x := 1 ; END_PROGRAM")
	if fault, cost := exact.Run("P", nil, 0, 3); fault != 0 || cost != 3 {
		t.Errorf("P11.2: %d, %d", fault, cost)
	}
}

func TestMemory(t *testing.T) {
	src := classes + `b . Vars ( 1 , FALSE ) ; END_PROGRAM PROGRAM Q ; VAR n : INT := - 4 ; VAR f : BOOL := 1 ; VAR l : ARRAY [ 2 ] OF INT ; VAR r : REF_TO A ; VAR t : CTU ; VAR o : A ;
 l [ 2 ] := 6 ; r := REF ( o ) ; STEP t ( TRUE , 1 ) ; n := 1 ; END_PROGRAM`
	m := open(t, src)
	for _, c := range []struct {
		program, name string
		at, n         int
		ok            bool
	}{{"Q", "n", 0, -4, true}, {"Q", "n", 1, 0, false}, {"Q", "n", -1, 0, false}, {"Q", "f", 0, 1, true}, {"Q", "l", 2, 0, true}, {"Q", "l", 3, 0, false}, {"Q", "l", -1, 0, false}, {"Q", "r", 0, 0, true}, {"Q", "r", 1, 0, false}, {"Q", "t", 0, 0, false}, {"Q", "o", 0, 0, false}, {"Q", "z", 0, 0, false}, {"P", "n", 0, 0, false}, {"A", "n", 0, 0, false}, {"Z", "n", 0, 0, false}} {
		if n, ok := m.Get(c.program, c.name, c.at); n != c.n || ok != c.ok {
			t.Errorf("P11.1: Get(%s, %s, %d): %d, %v", c.program, c.name, c.at, n, ok)
		}
	}
	if b, ok := m.Block("Q", "t"); !ok || b != (api.Block{Kind: api.CTU}) {
		t.Errorf("P11.1: Block: %v, %v", b, ok)
	}
	for _, name := range []string{"n", "o", "z"} {
		if b, ok := m.Block("Q", name); ok || b != (api.Block{}) {
			t.Errorf("P11.1: Block(%s): %v", name, b)
		}
	}
	if _, ok := m.Block("Z", "t"); ok {
		t.Error("P11.1: Block of no program")
	}
	if fault, cost := m.Run("Q", nil, 0, 100); fault != 0 || cost != 1+3+2+3+2 {
		t.Errorf("P11.2: %d, %d", fault, cost)
	}
	if fault, _ := m.Run("P", nil, 0, 100); fault != 0 {
		t.Errorf("P11.2: %d", fault)
	}
	for i, c := range []struct {
		inst    int
		name    string
		at, n   int
		present bool
	}{{1, "n", 0, 7, true}, {2, "n", 0, 7, true}, {2, "m", 0, 3, true}, {2, "log", 2, 6, true}, {2, "log", 0, 0, true}, {2, "log", 4, 0, false}, {2, "n", 1, 0, false}, {1, "m", 0, 0, false}, {2, "next", 0, 0, true}, {4, "n", 0, 0, false}, {6, "n", 0, 7, true}, {0, "n", 0, 0, false}, {7, "n", 0, 0, false}, {-1, "n", 0, 0, false}} {
		if n, ok := m.Field(c.inst, c.name, c.at); n != c.n || ok != c.present {
			t.Errorf("P11.1: Field, the %d-th: %d, %v", i, n, ok)
		}
	}
	if n, _ := m.Get("Q", "r", 0); n != 6 {
		t.Errorf("P11.1: a reference: %d", n)
	}
	if n, _ := m.Get("Q", "l", 2); n != 6 {
		t.Errorf("P11.1: an array: %d", n)
	}
	if b, _ := m.Block("Q", "t"); b != (api.Block{Kind: api.CTU, Q: true, Last: true, CV: 1}) {
		t.Errorf("P11.1: a block: %v", b)
	}
}

func TestInputs(t *testing.T) {
	src := `PROGRAM P ; VAR a : INT := 5 AT IN 0 ; VAR b : BOOL AT IN 0 ; VAR c : INT := 9 AT IN 2 ; VAR s : INT ; s := a + c ; END_PROGRAM PROGRAM Q ; VAR d : INT AT IN 1 ; VAR o : INT := 3 AT OUT 1 ; END_PROGRAM`
	m := open(t, src)
	check := func(want ...int) {
		t.Helper()
		var got []int
		for _, v := range [][2]string{{"P", "a"}, {"P", "b"}, {"P", "c"}, {"P", "s"}, {"Q", "d"}, {"Q", "o"}} {
			n, _ := m.Get(v[0], v[1], 0)
			got = append(got, n)
		}
		if !reflect.DeepEqual(got, want) {
			t.Errorf("P11.2: %v, want %v", got, want)
		}
	}
	check(5, 0, 9, 0, 0, 3)
	in := []int{65536 + 7, 40000, -1, 5, 6, 7, 8, 9, 10}
	m.Run("P", in, 0, 100)
	check(7, 1, -1, 6, -25536, 3)
	in[0] = 4
	check(7, 1, -1, 6, -25536, 3)
	m.Run("Q", []int{65536, 1}, 0, 0)
	check(0, 1, 0, 6, 1, 3)
	if fault, cost := m.Run("Z", []int{9, 9, 9}, 0, 100); fault != api.Arg || cost != 0 {
		t.Errorf("P11.2: %d, %d", fault, cost)
	}
	check(0, 1, 0, 6, 1, 3)
	m.Run("P", nil, 0, 100)
	check(0, 0, 0, 0, 0, 3)
}

func TestNew(t *testing.T) {
	for _, src := range []string{"TASK T ( INTERVAL 1 , PRIORITY 0 ) : P ;", "CLASS A ; METHOD M ( ) ; THIS . M ( ) ; END_METHOD END_CLASS", "PROGRAM P ; x := 1 ; END_PROGRAM"} {
		m, err := New(read(t, src))
		if code, at, ok := diag.Find(err); m != nil || !ok || code != api.Arg || at != 0 {
			t.Errorf("P11.1: %s: %v", src, err)
		}
	}
	if m, err := New(api.Unit{}); m == nil || err != nil {
		t.Error("P11.1: an empty unit")
	}
	var none *Mem
	n, ok := none.Get("P", "x", 0)
	f, found := none.Field(1, "x", 0)
	b, is := none.Block("P", "x")
	fault, cost := none.Run("P", nil, 0, 0)
	if n != 0 || ok || f != 0 || found || b != (api.Block{}) || is || fault != api.Arg || cost != 0 {
		t.Error("R3: no memory")
	}
	u := read(t, "PROGRAM P ; VAR x : INT ; CASE x OF 0 : x := 2 ; END_CASE ; END_PROGRAM")
	m, _ := New(u)
	u.Decls[0].Body[0].Labels[0][0] = 9
	u.Decls[0].Body[0].Blocks[0][0].Exprs[0].N = 9
	u.Decls[0].Vars[0].Name = "y"
	m.Run("P", nil, 0, 100)
	if n, ok := m.Get("P", "x", 0); n != 2 || !ok {
		t.Errorf("R4: the unit is kept: %d", n)
	}
}

func TestNodes(t *testing.T) {
	for src, want := range map[string]int{"1": 1, "a + 1": 3, "- ( a [ 1 ] )": 3, "o . M ( 1 , 2 + 3 )": 5, "AS C ( r )": 2, "THIS . M ( )": 1} {
		e, err := syntax.Expr(src)
		if got := Nodes(e); err != nil || got != want {
			t.Errorf("P11.1: Nodes(%s): %d", src, got)
		}
	}
}

func TestDeepTrees(t *testing.T) {
	e, s := api.Expr{Kind: api.Num, N: 1}, api.Stmt{Kind: api.Return}
	for range 999 {
		e = api.Expr{Kind: api.Neg, Args: []api.Expr{e}}
		s = api.Stmt{Kind: api.If, Exprs: []api.Expr{{Kind: api.True}}, Blocks: [][]api.Stmt{{s}, nil}}
	}
	u := api.Unit{Decls: []api.Decl{{Kind: api.Program, Name: "P", Vars: []api.Var{{Name: "x", Type: api.Type{Kind: api.Int}}}, Body: []api.Stmt{{Kind: api.Assign, Name: "x", Exprs: []api.Expr{e}}, s}}}}
	m, err := New(u)
	if err != nil {
		t.Fatal(err)
	}
	if fault, cost := m.Run("P", nil, 0, 4000); fault != 0 || cost != 1+1001+2*999+1 {
		t.Errorf("R1: %d, %d", fault, cost)
	}
}

// TestFaultsEnd holds that behind a fault nothing more is done, wherever it comes from.
func TestFaultsEnd(t *testing.T) {
	const zero = "( 1 / y )"
	for _, body := range []string{"x := - " + zero + " ;", "x := 1 + " + zero + " ;", "x := " + zero + " + 1 ;", "x := l [ " + zero + " ] ;", "x := l [ 9 ] ;", "x := l [ 9 ] + 1 ;", "x := 1 + l [ 9 ] ;", "l [ 0 ] := " + zero + " ;", "l [ " + zero + " ] := 9 ;", "l [ 9 ] := 9 ;",
		"x := o . Echo ( " + zero + " ) ;", "x := 1 + o . Fail ( 0 ) ;", "x := o . Echo ( o . Fail ( 0 ) ) ;", "x := o . Fail ( 0 ) + 1 ;", "o . Fail ( 0 ) ;", "r . Fail ( 0 ) ;", "x := r . Echo ( 1 ) ;", "x := 1 + r . Echo ( 1 ) ;", "r := AS C ( REF ( d ) ) ;", "b := NOT ( " + zero + " = 1 ) ;",
		"b := ( AS C ( REF ( d ) ) ) = NULL ;", "IF " + zero + " = 0 THEN x := 1 ; ELSE x := 2 ; END_IF ;", "IF " + zero + " <> 0 THEN ELSE x := 2 ; END_IF ;", "CASE " + zero + " OF 0 : x := 1 ; ELSE x := 2 ; END_CASE ;", "WHILE " + zero + " = 0 DO x := 1 ; END_WHILE ;", "FOR x := " + zero + " TO 3 BY 1 DO END_FOR ;", "FOR x := 1 TO " + zero + " BY 1 DO END_FOR ;",
		"IF TRUE THEN l [ 9 ] := 1 ; END_IF ;", "WHILE TRUE DO l [ 9 ] := 1 ; END_WHILE ;", "FOR y := 0 TO 1 BY 1 DO l [ 9 ] := 1 ; END_FOR ;", "CASE 1 OF 1 : l [ 9 ] := 1 ; END_CASE ;", "RETURN ; l [ 9 ] := 1 ;", "STEP t ( " + zero + " = 0 , 1 ) ;", "STEP t ( TRUE , " + zero + " ) ;", "r ?= AS C ( REF ( d ) ) ;"} {
		m := open(t, `CLASS C ; METHOD Echo ( a : INT ) : INT ; RETURN a ; END_METHOD METHOD Fail ( a : INT ) : INT ; VAR v : INT ; v := 1 / a ; RETURN 5 ; END_METHOD END_CLASS CLASS D ; END_CLASS
PROGRAM Q ; VAR o : C ; VAR d : D ; VAR x : INT := 7 ; VAR y : INT ; VAR l : ARRAY [ 2 ] OF INT ; VAR r : REF_TO C ; VAR t : CTU ; VAR b : BOOL := 1 ; `+body+" x := 3 ; END_PROGRAM")
		fault, _ := m.Run("Q", nil, 0, 4000)
		x, _ := m.Get("Q", "x", 0)
		l, _ := m.Get("Q", "l", 0)
		b, _ := m.Get("Q", "b", 0)
		block, _ := m.Block("Q", "t")
		if (fault == api.Running) != (body[:6] == "RETURN") || x != 7 || l != 0 || b != 1 || block != (api.Block{Kind: api.CTU}) {
			t.Errorf("P11.2: %s: fault %d, %d, %d, %d, %v", body, fault, x, l, b, block)
		}
	}
}

func TestMore(t *testing.T) {
	for _, c := range []sample{{"y := TRUE ;", "0 3 y1"}, {"y := FALSE ;", "0 3"}, {"a [ 0 ] := 6 ; x := a [ 0 ] ;", "0 7 x6"}, {"y := DONE ( t ) ; x := 1 ;", "0 5 x1"}, {"STEP t ( TRUE , 0 ) ; y := NOT DONE ( t ) ;", "0 7"}} {
		m := open(t, "PROGRAM P ; VAR x : INT ; VAR y : BOOL ; VAR a : ARRAY [ 3 ] OF INT ; VAR t : TON ; "+c.body+" END_PROGRAM")
		if got := told(t, m, 4000, "x", "y"); got != c.want {
			t.Errorf("P11.3: %s: %s, want %s", c.body, got, c.want)
		}
		if b, ok := m.Block("P", "t"); !ok || b.Kind != api.TON {
			t.Errorf("P11.1: Block: %v", b)
		}
	}
}
