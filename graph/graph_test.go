package graph

import (
	"slices"
	"strconv"
	"testing"

	"governor/api"
	"governor/rules"
	"governor/syntax"
)

func read(t *testing.T, src string) api.Unit {
	t.Helper()
	u, _, err := syntax.Parse(src)
	if err != nil {
		t.Fatal(src, err)
	}
	if wrong := rules.Unit(u); wrong != nil {
		t.Fatal(src, wrong)
	}
	return u
}

func at(numbers ...int) []api.Where {
	var all []api.Where
	for i := 0; i < len(numbers); i += 2 {
		all = append(all, api.Where{Decl: numbers[i], Method: numbers[i+1]})
	}
	return all
}

// 0 I, 1 A, 2 B of A, 3 C of B, 4 D of I, 5 P, 6 E of A.
const source = `INTERFACE I ; METHOD M ( ) : INT ; END_INTERFACE
CLASS ABSTRACT A ; VAR i : REF_TO I ; METHOD ABSTRACT M ( ) : INT ; END_METHOD METHOD K ( n : INT ) : INT ; RETURN THIS . M ( ) ; END_METHOD METHOD L ( ) ; END_METHOD END_CLASS
CLASS B EXTENDS A IMPLEMENTS I ; METHOD OVERRIDE M ( ) : INT ; SUPER . L ( ) ; RETURN 1 ; END_METHOD METHOD OVERRIDE L ( ) ; END_METHOD END_CLASS
CLASS C EXTENDS B ; METHOD Q ( o : REF_TO B ) ; IF FALSE THEN o . L ( ) ; RETURN ; END_IF ; RETURN ; SUPER . K ( SUPER . M ( ) ) ; END_METHOD END_CLASS
CLASS D IMPLEMENTS I ; METHOD M ( ) : INT ; END_METHOD END_CLASS
PROGRAM P ; VAR c : C ; VAR r : REF_TO A ; VAR i : REF_TO I ; VAR x : INT ; VAR a : ARRAY [ 2 ] OF INT ; VAR t : TON ;
CASE x OF 1 : a [ i . M ( ) ] := 1 ; ELSE c . Q ( c ) ; END_CASE ; END_PROGRAM
CLASS E EXTENDS A ; METHOD OVERRIDE M ( ) : INT ; RETURN i . M ( ) ; END_METHOD END_CLASS`

func TestCalls(t *testing.T) {
	u, _, err := syntax.Parse(source)
	if err != nil {
		t.Fatal(err)
	}
	for _, c := range []struct{ w, want []api.Where }{
		{at(1, 0), nil}, {at(1, 1), at(2, 0, 6, 0)}, {at(1, 2), nil}, {at(2, 0), at(1, 2)}, {at(2, 1), nil},
		{at(3, 0), at(1, 1, 2, 0, 2, 1)}, {at(5, -1), at(2, 0, 3, 0, 4, 0)}, {at(6, 0), at(2, 0, 4, 0)},
		{at(0, 0), nil}, {at(5, 0), nil}, {at(1, 9), nil}, {at(1, -1), nil}, {at(-1, -1), nil}, {at(99, 0), nil},
	} {
		if got := Calls(u, c.w[0]); !slices.Equal(got, c.want) {
			t.Errorf("P9.1: Calls(%v): %v, want %v", c.w[0], got, c.want)
		}
	}
}

func TestDepth(t *testing.T) {
	u, _, err := syntax.Parse(source)
	if err != nil {
		t.Fatal(err)
	}
	if Cycle(u) != -1 {
		t.Errorf("P9.1: Cycle: %d", Cycle(u))
	}
	for _, c := range []struct {
		w    []api.Where
		want int
	}{{at(1, 0), 1}, {at(1, 1), 4}, {at(1, 2), 1}, {at(2, 0), 2}, {at(3, 0), 5}, {at(5, -1), 6}, {at(6, 0), 3}, {at(0, 0), 0}, {at(5, 0), 0}, {at(5, -2), 0}, {at(1, -1), 0}, {at(1, 3), 0}, {at(-1, 0), 0}, {at(7, 0), 0}} {
		if got := Depth(u, c.w[0]); got != c.want {
			t.Errorf("P9.1: Depth(%v): %d, want %d", c.w[0], got, c.want)
		}
	}
	empty := read(t, "PROGRAM P ; END_PROGRAM")
	if Depth(empty, api.Where{Method: -1}) != 1 || Cycle(empty) != -1 || Cycle(api.Unit{}) != -1 {
		t.Error("P9.1: an empty program")
	}
}

func TestRings(t *testing.T) {
	const a = "CLASS A ; METHOD M ( ) ; END_METHOD METHOD N ( ) ; THIS . M ( ) ; END_METHOD END_CLASS "
	for _, c := range []struct {
		src   string
		cycle int
		zero  []api.Where
		whole []api.Where
	}{
		{"CLASS A ; METHOD M ( ) ; THIS . M ( ) ; END_METHOD END_CLASS", 0, at(0, 0), nil},
		{a + "CLASS B EXTENDS A ; METHOD OVERRIDE M ( ) ; THIS . N ( ) ; END_METHOD END_CLASS PROGRAM P ; VAR a : A ; a . N ( ) ; END_PROGRAM", 0, at(0, 1, 1, 0, 2, -1), at(0, 0)},
		{a + "CLASS B EXTENDS A ; METHOD OVERRIDE M ( ) ; SUPER . M ( ) ; END_METHOD END_CLASS", -1, nil, at(0, 0, 0, 1, 1, 0)},
		{a + "CLASS B EXTENDS A ; METHOD OVERRIDE M ( ) ; SUPER . N ( ) ; END_METHOD END_CLASS", 0, at(0, 1, 1, 0), at(0, 0)},
		{a + "CLASS B ; VAR b : REF_TO B ; METHOD M ( ) ; b . N ( ) ; END_METHOD METHOD N ( ) ; THIS . M ( ) ; END_METHOD END_CLASS CLASS C ; METHOD M ( b : REF_TO B ) ; b . M ( ) ; END_METHOD END_CLASS", 1, at(1, 0, 1, 1, 2, 0), at(0, 0, 0, 1)},
		{"CLASS C ; METHOD M ( r : REF_TO D ) ; r . M ( ) ; END_METHOD END_CLASS CLASS D ; METHOD M ( ) ; THIS . M ( ) ; END_METHOD END_CLASS", 1, at(0, 0, 1, 0), nil},
		{"INTERFACE I ; METHOD M ( ) ; END_INTERFACE CLASS Q ; METHOD N ( i : REF_TO I ) ; i . M ( ) ; END_METHOD END_CLASS CLASS C IMPLEMENTS I ; VAR q : REF_TO Q ; METHOD M ( ) ; q . N ( NULL ) ; END_METHOD END_CLASS", 1, at(1, 0, 2, 0), nil},
	} {
		u := read(t, c.src)
		if got := Cycle(u); got != c.cycle {
			t.Errorf("P9.1: %s: Cycle: %d", c.src, got)
		}
		for _, w := range c.zero {
			if got := Depth(u, w); got != 0 {
				t.Errorf("P9.1: %s: Depth(%v): %d", c.src, w, got)
			}
		}
		for _, w := range c.whole {
			if got := Depth(u, w); got == 0 {
				t.Errorf("P9.1: %s: Depth(%v): %d", c.src, w, got)
			}
		}
	}
}

func TestAllDeclarations(t *testing.T) {
	src := ""
	for i := range api.MaxDecls {
		src += "CLASS C" + strconv.Itoa(i) + " ; METHOD M ( ) ; THIS . N ( ) ; END_METHOD METHOD N ( ) ; END_METHOD END_CLASS "
	}
	u := read(t, src)
	if got := Calls(u, api.Where{Decl: 11}); !slices.Equal(got, at(11, 1)) || Depth(u, api.Where{Decl: 11}) != 2 {
		t.Errorf("P9.1: %v", got)
	}
	if again := read(t, src[:len(src)-len("END_METHOD END_CLASS ")]+"THIS . M ( ) ; END_METHOD END_CLASS"); Cycle(again) != 11 {
		t.Errorf("P9.1: %d", Cycle(again))
	}
}

func TestOddUnits(t *testing.T) {
	var u api.Unit
	invoke := func(n int, name string, what string) []api.Stmt {
		return []api.Stmt{{Kind: api.Do, Exprs: []api.Expr{{Kind: api.Invoke, N: n, Name: name, What: what}}}}
	}
	for i := range 20000 {
		n, next := strconv.Itoa(i), strconv.Itoa((i+1)%20000)
		u.Decls = append(u.Decls, api.Decl{Kind: api.Class, Name: "C" + n, Base: "C" + next, Vars: []api.Var{{Name: "r" + n, Type: api.Type{Kind: api.Ref, Name: "C" + next}}},
			Methods: []api.Method{{Name: "M" + n, Body: invoke(2, "", "M"+next)}}})
	}
	Cycle(u)
	Depth(u, api.Where{})
	// Many methods, each of which calls the next one.
	var methods []api.Method
	for i := range 16000 {
		methods = append(methods, api.Method{Name: "M" + strconv.Itoa(i), Body: invoke(1, "", "M"+strconv.Itoa((i+1)%16000))})
	}
	long := api.Unit{Decls: []api.Decl{{Kind: api.Class, Name: "A", Methods: methods}, {Kind: api.Class, Name: "B", Base: "A"}}}
	if got := Cycle(long); got != 0 {
		t.Errorf("R1: %d", got)
	}
	long.Decls[0].Methods[15999].Body = nil
	if Cycle(long) != -1 || Depth(long, api.Where{}) != 16000 {
		t.Error("R1: many methods")
	}
	for _, u := range []api.Unit{
		{Decls: []api.Decl{{Kind: api.Class, Methods: []api.Method{{Body: invoke(7, "x", "y")}, {Body: invoke(0, "x", "")}, {Body: invoke(1, "", "q")}}}}},
		{Decls: []api.Decl{{Kind: api.Program, Body: invoke(1, "", "")}, {Kind: 9, Methods: make([]api.Method, 2)}}},
	} {
		Cycle(u)
		for m := -1; m < 3; m++ {
			Calls(u, api.Where{Decl: 0, Method: m})
			Depth(u, api.Where{Decl: 0, Method: m})
		}
	}
}
