package typing

import (
	"reflect"
	"strings"
	"testing"

	"governor/api"
	"governor/syntax"
)

// places: 0 I, 1 A, 2 B of A, 3 P, 4 T, 5 X of nothing.
const source = `INTERFACE I ; METHOD Get ( ) : INT ; METHOD Go ( a : INT , r : REF_TO A ) ; END_INTERFACE
CLASS ABSTRACT A IMPLEMENTS I ; VAR f : INT ; VAR shade : BOOL ;
METHOD Get ( ) : INT ; RETURN 1 ; END_METHOD
METHOD ABSTRACT Go ( a : INT , r : REF_TO A ) ; END_METHOD
METHOD Is ( ) : BOOL ; END_METHOD
END_CLASS
CLASS B EXTENDS A ; VAR g : ARRAY [ 3 ] OF INT ; VAR me : REF_TO B ;
METHOD OVERRIDE Go ( a : INT , r : REF_TO A ) ; VAR shade : INT ; VAR v : INT ( 1 .. 5 ) ; VAR w : ARRAY [ 2 ] OF INT ; END_METHOD
METHOD Ask ( b : BOOL ) : BOOL ; END_METHOD
END_CLASS
PROGRAM P ; VAR x : INT ; VAR in : INT AT IN 0 ; VAR y : BOOL ; VAR r : REF_TO A ; VAR i : REF_TO I ; VAR o : B ; VAR t : TON ; VAR a : ARRAY [ 3 ] OF INT ; END_PROGRAM
TASK T ( INTERVAL 1 , PRIORITY 0 ) : P ;
CLASS X EXTENDS Nobody ; VAR bad : REF_TO Nobody ; VAR in : BOOL AT IN 1 ; VAR none : Nobody ; VAR task : REF_TO T ; METHOD M ( b : REF_TO B , m : B ) : REF_TO A ; VAR n : INT ( 1 .. 2 ) ; VAR q : REF_TO A ; END_METHOD METHOD N ( ) ; END_METHOD END_CLASS`

var (
	inGo   = api.Where{Decl: 2, Method: 0}
	inAsk  = api.Where{Decl: 2, Method: 1}
	inGet  = api.Where{Decl: 1, Method: 0}
	inP    = api.Where{Decl: 3, Method: -1}
	inX    = api.Where{Decl: 5, Method: 0}
	inN    = api.Where{Decl: 5, Method: 1}
	nobody = []api.Where{{Decl: 0, Method: 0}, {Decl: 3, Method: 0}, {Decl: 1, Method: -1}, {Decl: 1, Method: 3}, {Decl: 4, Method: -1}, {Decl: -1, Method: -1}, {Decl: 9, Method: 0}, {Decl: 1, Method: -2}, {Decl: 3, Method: -2}}
)

func unit(t *testing.T) api.Unit {
	t.Helper()
	u, _, err := syntax.Parse(source)
	if err != nil {
		t.Fatal(err)
	}
	return u
}

func names(vars []api.Var) string {
	var all []string
	for _, v := range vars {
		all = append(all, v.Name)
	}
	return strings.Join(all, " ")
}

func TestVisible(t *testing.T) {
	u := unit(t)
	for w, want := range map[api.Where]string{inGo: "a r shade v w f shade g me", inAsk: "b f shade g me", inGet: "f shade", inP: "x in y r i o t a", inX: "b m n q bad in none task"} {
		if got := names(Visible(u, w)); got != want {
			t.Errorf("P7.1: Visible(%v): %s", w, got)
		}
	}
	for _, w := range nobody {
		_, code := Expr(u, w, api.Expr{Kind: api.Num})
		if Visible(u, w) != nil || code != api.Arg || Stmts(u, w, nil) != api.Arg || Stmts(u, w, make([]api.Stmt, 1)) != api.Arg {
			t.Errorf("P7.1: at %v", w)
		}
	}
	got := Visible(u, inP)
	got[0].Name = "changed"
	if u.Decls[3].Vars[0].Name != "x" {
		t.Error("R4: Visible")
	}
}

func kind(k int) api.Type      { return api.Type{Kind: k} }
func ref(name string) api.Type { return api.Type{Kind: api.Ref, Name: name} }

func TestFits(t *testing.T) {
	u := unit(t)
	for _, c := range []struct {
		to, from api.Type
		want     bool
	}{{kind(api.Int), kind(api.Int), true}, {kind(api.Range), kind(api.Int), true}, {kind(api.Int), kind(api.Range), false}, {kind(api.Bool), kind(api.Bool), true}, {kind(api.Bool), kind(api.Int), false}, {kind(api.Int), kind(api.Bool), false},
		{ref("A"), ref(""), true}, {ref("A"), ref("B"), true}, {ref("B"), ref("A"), false}, {ref("I"), ref("B"), true}, {ref("I"), ref("I"), true}, {ref("A"), ref("I"), false}, {ref("Zz"), ref("Zz"), true}, {ref("Zz"), ref("A"), false}, {ref(""), ref("A"), false}, {ref(""), ref(""), true}, {ref("P"), ref("P"), true},
		{ref("A"), kind(api.Int), false}, {kind(api.Array), kind(api.Array), false}, {api.Type{Kind: api.Inst, Name: "A"}, api.Type{Kind: api.Inst, Name: "A"}, false}, {ref("A"), api.Type{Kind: api.Inst, Name: "A"}, false}, {kind(api.Timer), kind(api.Timer), false}, {kind(0), kind(0), false}, {kind(99), kind(99), false}} {
		if got := Fits(u, c.to, c.from); got != c.want {
			t.Errorf("P7.1: Fits(%v, %v): %v", c.to, c.from, got)
		}
	}
}

func TestExprTypes(t *testing.T) {
	u := unit(t)
	for _, c := range []struct {
		w    api.Where
		src  string
		want api.Type
	}{{inP, "1", kind(api.Int)}, {inP, "TRUE", kind(api.Bool)}, {inP, "FALSE", kind(api.Bool)}, {inP, "NULL", ref("")}, {inP, "x", kind(api.Int)}, {inP, "y", kind(api.Bool)}, {inP, "in", kind(api.Int)},
		{inGo, "v", kind(api.Int)}, {inGo, "shade", kind(api.Int)}, {inAsk, "shade", kind(api.Bool)}, {inP, "r", ref("A")}, {inP, "i", ref("I")}, {inGo, "me", ref("B")},
		{inP, "a[x]", kind(api.Int)}, {inGo, "w[v]", kind(api.Int)}, {inP, "- x", kind(api.Int)}, {inP, "NOT y", kind(api.Bool)}, {inP, "x MOD 2", kind(api.Int)}, {inP, "x < 2", kind(api.Bool)}, {inP, "x >= in", kind(api.Bool)},
		{inP, "y XOR TRUE", kind(api.Bool)}, {inP, "x = 1", kind(api.Bool)}, {inP, "y <> TRUE", kind(api.Bool)}, {inP, "r = NULL", kind(api.Bool)}, {inP, "r <> i", kind(api.Bool)}, {inP, "REF(o)", ref("B")}, {inP, "DONE(t)", kind(api.Bool)}, {inP, "COUNT(t)", kind(api.Int)},
		{inP, "AS B(r)", ref("B")}, {inP, "AS I(NULL)", ref("I")}, {inP, "o.Ask(y)", kind(api.Bool)}, {inP, "o.Get()", kind(api.Int)}, {inP, "r.Get()", kind(api.Int)}, {inP, "i.Get()", kind(api.Int)}, {inAsk, "THIS.Get()", kind(api.Int)}, {inAsk, "THIS.Ask(TRUE)", kind(api.Bool)}, {inAsk, "SUPER.Get()", kind(api.Int)}, {inGo, "me.Ask(FALSE)", kind(api.Bool)},
		{inX, "THIS.M(NULL, NULL)", kind(-1)}, {inX, "b.Get() + n", kind(api.Int)}, {inX, "m.Get()", kind(api.Int)}} {
		e, err := syntax.Expr(c.src)
		if err != nil {
			t.Fatal(c.src, err)
		}
		got, code := Expr(u, c.w, e)
		if c.want.Kind == -1 {
			if code != api.Call {
				t.Errorf("P7.2: %s: %d", c.src, code)
			}
			continue
		}
		if code != 0 || got != c.want {
			t.Errorf("P7.2: %s: %v, %d", c.src, got, code)
		}
	}
}

func TestExprCodes(t *testing.T) {
	u := unit(t)
	for _, c := range []struct {
		w    api.Where
		src  string
		code int
	}{{inP, "q", api.Unknown}, {inP, "a", api.Typing}, {inP, "o", api.Typing}, {inP, "t", api.Typing}, {inP, "f", api.Unknown}, {inX, "none", api.Typing},
		{inP, "q[q]", api.Unknown}, {inP, "x[q]", api.Typing}, {inP, "a[q]", api.Unknown}, {inP, "a[y]", api.Typing}, {inP, "- y", api.Typing}, {inP, "- q", api.Unknown}, {inP, "NOT x", api.Typing}, {inP, "NOT NULL", api.Typing},
		{inP, "1 + TRUE", api.Typing}, {inP, "TRUE + q", api.Unknown}, {inP, "(1 + TRUE) + q", api.Typing}, {inP, "TRUE < FALSE", api.Typing}, {inP, "1 AND 2", api.Typing}, {inP, "1 = TRUE", api.Typing}, {inP, "r = 0", api.Typing}, {inP, "r < r", api.Typing}, {inP, "r AND y", api.Typing},
		{inP, "REF(q)", api.Unknown}, {inP, "REF(r)", api.Typing}, {inP, "DONE(q)", api.Unknown}, {inP, "DONE(x)", api.Typing}, {inP, "COUNT(q)", api.Unknown}, {inP, "COUNT(o)", api.Typing},
		{inP, "AS Zz(q)", api.Unknown}, {inP, "AS P(r)", api.Unknown}, {inP, "AS T(1)", api.Unknown}, {inP, "AS A(q)", api.Unknown}, {inP, "AS A(1)", api.Typing}, {inP, "AS Zz(1)", api.Unknown},
		{inP, "q.Get()", api.Unknown}, {inP, "x.Get()", api.Typing}, {inP, "a.Get()", api.Typing}, {inP, "r.Nix()", api.Call}, {inP, "r.Nix(q)", api.Call}, {inP, "r.Get(q)", api.Unknown}, {inP, "r.Get(1)", api.Call}, {inP, "o.Ask()", api.Call}, {inP, "o.Ask(1)", api.Call}, {inP, "o.Ask(1,q)", api.Unknown},
		{inP, "o.Go(1,NULL)", api.Typing}, {inP, "o.Go(1,i)", api.Call}, {inP, "o.Go(1,1)", api.Call}, {inP, "r.Ask(TRUE)", api.Call}, {inP, "i.Is()", api.Call},
		{inP, "THIS.Get()", api.Call}, {inP, "SUPER.Get()", api.Call}, {inGet, "SUPER.Get()", api.Call}, {inX, "SUPER.M()", api.Call}, {inAsk, "THIS.Nix()", api.Call}, {inAsk, "SUPER.Ask(TRUE)", api.Call}, {inGo, "SUPER.Go(1,NULL)", api.Call}, {inGo, "SUPER.Go(q,NULL)", api.Call},
		{inX, "bad.M()", api.Unknown}, {inX, "none.M()", api.Unknown}, {inX, "task.M()", api.Unknown}, {inX, "THIS.N()", api.Typing}, {inX, "THIS.M(b,b)", api.Call}, {inX, "THIS.M(REF(o))", api.Unknown}} {
		e, err := syntax.Expr(c.src)
		if err != nil {
			t.Fatal(c.src, err)
		}
		if got, code := Expr(u, c.w, e); code != c.code || got != (api.Type{}) {
			t.Errorf("P7.2: %s: %v, %d, want %d", c.src, got, code, c.code)
		}
	}
}

func TestExprForms(t *testing.T) {
	u := unit(t)
	q, one := api.Expr{Kind: api.Name, Name: "q"}, api.Expr{Kind: api.Num, N: 1}
	for k := -1; k <= 16; k++ {
		for n := range 4 {
			e := api.Expr{Kind: k, Name: "q"}
			for range n {
				e.Args = append(e.Args, q)
			}
			want := api.Typing
			switch {
			case k == api.Num && n == 0, (k == api.True || k == api.False || k == api.Null) && n == 0:
				want = api.Fine
			case (k == api.Name || k == api.RefOf || k == api.Out || k == api.Count) && n == 0, (k == api.Index || k == api.Neg || k == api.Not || k == api.As) && n == 1, k == api.Bin && n == 2, k == api.Invoke:
				want = api.Unknown
			}
			if _, code := Expr(u, inP, e); code != want {
				t.Errorf("P7.2: kind %d of %d: %d, want %d", k, n, code, want)
			}
		}
	}
	for _, n := range []int{0, -1, 15} {
		if _, code := Expr(u, inP, api.Expr{Kind: api.Bin, N: n, Args: []api.Expr{one, one}}); code != api.Typing {
			t.Errorf("P7.2: operator %d: %d", n, code)
		}
		if _, code := Expr(u, inP, api.Expr{Kind: api.Bin, N: n, Args: []api.Expr{one, q}}); code != api.Unknown {
			t.Errorf("P7.2: operator %d of q: %d", n, code)
		}
	}
	for _, n := range []int{3, -1} {
		if _, code := Expr(u, inP, api.Expr{Kind: api.Invoke, N: n, Name: "q", What: "Get"}); code != api.Typing {
			t.Errorf("P7.2: a call's N %d: %d", n, code)
		}
	}
	// A class without a name is no class that a reference without a name means.
	loose := api.Unit{Decls: []api.Decl{{Kind: api.Class, Methods: []api.Method{{Name: "M"}}}, {Kind: api.Program, Name: "P", Vars: []api.Var{{Name: "r", Type: ref("")}, {Name: "o", Type: kind(api.Inst)}}}}}
	at := api.Where{Decl: 1, Method: -1}
	if _, code := Expr(loose, at, api.Expr{Kind: api.Invoke, Name: "r", What: "M"}); code != api.Typing {
		t.Errorf("P7.2: a reference of no name: %d", code)
	}
	if code := Stmts(loose, at, []api.Stmt{{Kind: api.Do, Exprs: []api.Expr{{Kind: api.Invoke, Name: "o", What: "M"}}}}); code != api.Fine {
		t.Errorf("P7.2: an instance of no name: %d", code)
	}
	long := api.Unit{Decls: []api.Decl{{Kind: api.Program, Vars: []api.Var{{Name: "i", Type: api.Type{Kind: api.Int, Lo: 3, Hi: 4, Name: "z"}}, {Name: "r", Type: api.Type{Kind: api.Ref, Lo: 3, Name: "z"}}}}}}
	for name, want := range map[string]api.Type{"i": kind(api.Int), "r": {Kind: api.Ref, Lo: 3, Name: "z"}} {
		if got, code := Expr(long, api.Where{Method: -1}, api.Expr{Kind: api.Name, Name: name}); code != 0 || got != want {
			t.Errorf("P7.2: %s: %v", name, got)
		}
	}
}

func TestStmts(t *testing.T) {
	u := unit(t)
	for _, c := range []struct {
		w    api.Where
		src  string
		code int
	}{{inP, "", 0}, {inP, "x := 1;", 0}, {inP, "q := 1;", api.Unknown}, {inP, "in := q;", api.Typing}, {inP, "x := q;", api.Unknown}, {inP, "x := TRUE;", api.Typing}, {inP, "y := 1;", api.Typing}, {inP, "r := REF(o);", 0}, {inP, "r := i;", api.Typing}, {inP, "i := r;", 0}, {inP, "r := NULL;", 0},
		{inP, "a := 1;", api.Typing}, {inP, "o := o;", api.Typing}, {inP, "o := NULL;", api.Typing}, {inP, "t := 1;", api.Typing}, {inGo, "v := 9;", 0}, {inGo, "a := 9;", 0}, {inGo, "v := TRUE;", api.Typing}, {inX, "n := 1;", 0}, {inX, "in := TRUE;", api.Typing},
		{inP, "a[1] := 2;", 0}, {inP, "q[q] := 2;", api.Unknown}, {inP, "x[q] := 2;", api.Typing}, {inP, "a[q] := TRUE;", api.Unknown}, {inP, "a[TRUE] := q;", api.Unknown}, {inP, "a[TRUE] := 1;", api.Typing}, {inP, "a[1] := TRUE;", api.Typing},
		{inP, "r ?= i;", 0}, {inP, "r ?= NULL;", 0}, {inP, "q ?= i;", api.Unknown}, {inP, "x ?= q;", api.Typing}, {inP, "r ?= q;", api.Unknown}, {inP, "r ?= 1;", api.Typing},
		{inP, "o.Go(1,NULL);", 0}, {inP, "o.Get();", 0}, {inP, "o.Nix();", api.Call}, {inP, "THIS.Get();", api.Call}, {inAsk, "THIS.Go(1,me);", 0}, {inAsk, "SUPER.Get();", 0},
		{inP, "IF y THEN x := 1; ELSIF y THEN x := 2; ELSE x := 3; END_IF;", 0}, {inP, "IF x THEN q := 1; END_IF;", api.Typing}, {inP, "IF q THEN END_IF;", api.Unknown}, {inP, "IF y THEN q := 1; ELSIF 1 THEN END_IF;", api.Unknown}, {inP, "IF y THEN ELSIF 1 THEN END_IF;", api.Typing}, {inP, "IF y THEN ELSE q := 1; END_IF;", api.Unknown},
		{inP, "CASE x OF 1, 2: x := 1; - 3: x := 2; ELSE x := 3; END_CASE;", 0}, {inP, "CASE x OF END_CASE;", 0}, {inP, "CASE y OF 1, 1: END_CASE;", api.Typing}, {inP, "CASE q OF 1, 1: END_CASE;", api.Unknown}, {inP, "CASE x OF 1, 1: END_CASE;", api.Twice}, {inP, "CASE x OF 1: q := 1; 2, 1: END_CASE;", api.Twice}, {inP, "CASE x OF 32768: END_CASE;", api.Twice}, {inP, "CASE x OF - 32768, 32767: END_CASE;", 0},
		{inP, "CASE x OF 1: q := 1; ELSE y := 1; END_CASE;", api.Unknown}, {inP, "CASE x OF 1: ELSE y := 1; END_CASE;", api.Typing},
		{inP, "WHILE y DO EXIT; END_WHILE;", 0}, {inP, "WHILE x DO q := 1; END_WHILE;", api.Typing}, {inP, "WHILE y DO q := 1; END_WHILE;", api.Unknown}, {inP, "EXIT;", api.Typing}, {inP, "IF y THEN EXIT; END_IF;", api.Typing}, {inP, "WHILE y DO IF y THEN CASE x OF 1: EXIT; ELSE EXIT; END_CASE; ELSE EXIT; END_IF; END_WHILE;", 0}, {inP, "WHILE y DO END_WHILE; EXIT;", api.Typing},
		{inP, "FOR x := 1 TO 2 BY 1 DO EXIT; END_FOR;", 0}, {inP, "FOR q := 1 TO 2 BY 1 DO END_FOR;", api.Unknown}, {inP, "FOR y := 1 TO 2 BY 1 DO END_FOR;", api.Typing}, {inP, "FOR in := 1 TO q BY 1 DO END_FOR;", api.Typing}, {inP, "FOR x := 1 TO q BY 0 DO END_FOR;", api.Typing}, {inP, "FOR x := q TO TRUE BY 1 DO END_FOR;", api.Unknown}, {inP, "FOR x := TRUE TO q BY 1 DO END_FOR;", api.Unknown}, {inP, "FOR x := TRUE TO 1 BY 1 DO q := 1; END_FOR;", api.Typing}, {inP, "FOR x := 1 TO 1 BY - 1 DO q := 1; END_FOR;", api.Unknown}, {inGo, "FOR v := 1 TO 2 BY 1 DO END_FOR;", api.Typing}, {inGo, "FOR a := 1 TO 2 BY 1 DO END_FOR;", 0},
		{inP, "RETURN;", 0}, {inP, "RETURN 1;", api.Typing}, {inP, "RETURN q;", api.Unknown}, {inGet, "RETURN 1;", 0}, {inGet, "RETURN;", api.Typing}, {inGet, "RETURN TRUE;", api.Typing}, {inGet, "RETURN q;", api.Unknown}, {inGo, "RETURN;", 0}, {inGo, "RETURN 1;", api.Typing}, {inAsk, "RETURN b;", 0}, {inX, "RETURN b;", 0}, {inX, "RETURN NULL;", 0}, {inX, "RETURN bad;", api.Typing}, {inN, "RETURN NULL;", api.Typing},
		{inP, "STEP t(y,x);", 0}, {inP, "STEP q(y,x);", api.Unknown}, {inP, "STEP x(q,x);", api.Typing}, {inP, "STEP t(1,q);", api.Unknown}, {inP, "STEP t(1,1);", api.Typing}, {inP, "STEP t(y,y);", api.Typing},
		{inP, "x := 1; q := 1; y := 1;", api.Unknown}, {inP, "x := 1; y := 1; q := 1;", api.Typing}} {
		u2, _, err := syntax.Parse("PROGRAM P ; " + c.src + " END_PROGRAM")
		if err != nil {
			t.Fatal(c.src, err)
		}
		if got := Stmts(u, c.w, u2.Decls[0].Body); got != c.code {
			t.Errorf("P7.3: %s: %d, want %d", c.src, got, c.code)
		}
	}
}

func TestStmtForms(t *testing.T) {
	u := unit(t)
	q := api.Expr{Kind: api.Name, Name: "q"}
	forms := map[int][3]int{api.Assign: {1, 0, 0}, api.Put: {2, 0, 0}, api.Attempt: {1, 0, 0}, api.Do: {1, 0, 0}, api.While: {1, 1, 0}, api.For: {2, 1, 0}, api.Exit: {0, 0, 0}, api.Step: {2, 0, 0}}
	for k := -1; k <= 13; k++ {
		for n := range 36 {
			s := api.Stmt{Kind: k, Name: "q", N: 1, Exprs: []api.Expr{q, q, q}[:n%4], Blocks: make([][]api.Stmt, n/4%3), Labels: [][]int{{1}, {2}}[:n/12%3]}
			right := forms[k] == [3]int{len(s.Exprs), len(s.Blocks), len(s.Labels)} && forms[k] != [3]int{} || k == api.Exit && n == 0
			switch k {
			case api.If:
				right = len(s.Exprs) > 0 && len(s.Blocks) == len(s.Exprs)+1 && len(s.Labels) == 0
			case api.Case:
				right = len(s.Exprs) == 1 && len(s.Blocks) == len(s.Labels)+1
			case api.Return:
				right = len(s.Exprs) < 2 && len(s.Blocks) == 0 && len(s.Labels) == 0
			}
			want := api.Typing
			if right && k != api.Do && k != api.Exit {
				want = api.Unknown
			}
			if right && k == api.Return && len(s.Exprs) == 0 {
				want = api.Fine
			}
			if got := Stmts(u, inP, []api.Stmt{s}); got != want {
				t.Errorf("P7.3: kind %d of %d, %d, %d: %d, want %d", k, len(s.Exprs), len(s.Blocks), len(s.Labels), got, want)
			}
		}
	}
	exit := api.Stmt{Kind: api.While, Exprs: []api.Expr{{Kind: api.True}}, Blocks: [][]api.Stmt{{{Kind: api.Exit}}}}
	empty := api.Stmt{Kind: api.Case, Exprs: []api.Expr{q}, Labels: [][]int{{1}, {}}, Blocks: make([][]api.Stmt, 3)}
	if Stmts(u, inP, []api.Stmt{exit}) != api.Fine || Stmts(u, inP, []api.Stmt{empty}) != api.Typing {
		t.Error("P7.3: forms")
	}
}

func TestLargeTrees(t *testing.T) {
	u := unit(t)
	e := api.Expr{Kind: api.Num}
	for range 1000 {
		e = api.Expr{Kind: api.Neg, Args: []api.Expr{e}}
	}
	if got, code := Expr(u, inP, e); code != 0 || got != kind(api.Int) {
		t.Error("R1: a deep expression")
	}
	list := make([]api.Stmt, 60000)
	for i := range list {
		list[i] = api.Stmt{Kind: api.Assign, Name: "i", Exprs: []api.Expr{{Kind: api.Name, Name: "r"}}}
	}
	before := unit(t)
	if Stmts(u, inP, list) != 0 || !reflect.DeepEqual(u, before) {
		t.Error("R1: many statements")
	}
}
