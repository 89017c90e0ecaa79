package table

import (
	"slices"
	"strconv"
	"testing"

	"governor/api"
	"governor/syntax"
)

func read(t *testing.T, src string) api.Unit {
	t.Helper()
	u, _, err := syntax.Parse(src)
	if err != nil {
		t.Fatal(err)
	}
	return u
}

// family: 0 I, 1 J, 2 A, 3 B of A, 4 C of B, 5 P, 6 T, 7 and 8 a ring, 9 of a program, 10 another A.
const family = `INTERFACE I ; METHOD M ( ) ; METHOD N ( ) ; METHOD M ( a : INT ) ; END_INTERFACE
INTERFACE J ; END_INTERFACE
CLASS A IMPLEMENTS I ; VAR a : INT ; VAR b : INT := 2 ; METHOD M ( ) ; END_METHOD METHOD K ( ) ; END_METHOD METHOD K ( ) ; END_METHOD END_CLASS
CLASS B EXTENDS A IMPLEMENTS J , J , P , Nobody ; VAR c : BOOL ; METHOD M ( ) ; END_METHOD END_CLASS
CLASS C EXTENDS B ; VAR d : INT ; END_CLASS
PROGRAM P ; VAR p : INT AT IN 1 ; VAR q : A ; END_PROGRAM
TASK T ( INTERVAL 1 , PRIORITY 0 ) : P ;
CLASS X EXTENDS Y IMPLEMENTS J ; VAR x : INT ; METHOD Mx ( ) ; END_METHOD END_CLASS
CLASS Y EXTENDS X IMPLEMENTS I ; VAR y : INT ; END_CLASS
CLASS Z EXTENDS P ; END_CLASS
CLASS A EXTENDS C ; END_CLASS`

func TestFind(t *testing.T) {
	u := read(t, family)
	for name, want := range map[string]int{"I": 0, "A": 2, "C": 4, "T": 6, "Z": 9, "": -1, "a": -1, "Nobody": -1} {
		if got := Find(u, name); got != want {
			t.Errorf("P6.1: Find(%q): %d", name, got)
		}
	}
	if Find(api.Unit{}, "A") != -1 || Find(api.Unit{Decls: make([]api.Decl, 2)}, "") != 0 {
		t.Error("P6.1: Find")
	}
}

func TestChainAndFaces(t *testing.T) {
	u := read(t, family)
	for _, c := range []struct {
		d            int
		chain, faces []int
	}{{2, []int{2}, []int{0}}, {3, []int{3, 2}, []int{1, 0}}, {4, []int{4, 3, 2}, []int{1, 0}}, {7, []int{7, 8}, []int{1, 0}}, {8, []int{8, 7}, []int{0, 1}},
		{9, []int{9}, nil}, {10, []int{10, 4, 3, 2}, []int{1, 0}}, {0, nil, nil}, {5, nil, nil}, {6, nil, nil}, {-1, nil, nil}, {11, nil, nil}} {
		if got := Chain(u, c.d); !slices.Equal(got, c.chain) {
			t.Errorf("P6.1: Chain(%d): %v", c.d, got)
		}
		if got := Faces(u, c.d); !slices.Equal(got, c.faces) {
			t.Errorf("P6.1: Faces(%d): %v", c.d, got)
		}
	}
	self := read(t, "CLASS S EXTENDS S ; END_CLASS")
	if got := Chain(self, 0); !slices.Equal(got, []int{0}) {
		t.Errorf("P6.1: %v", got)
	}
}

func TestIs(t *testing.T) {
	u := read(t, family)
	for _, c := range []struct {
		name, what string
		want       bool
	}{{"A", "A", true}, {"B", "A", true}, {"C", "A", true}, {"A", "B", false}, {"C", "I", true}, {"A", "I", true}, {"A", "J", false}, {"C", "J", true},
		{"I", "I", true}, {"I", "J", false}, {"P", "P", false}, {"T", "T", false}, {"Nobody", "Nobody", false}, {"", "", false}, {"C", "P", false}, {"C", "Nobody", false},
		{"X", "Y", true}, {"Y", "X", true}, {"X", "I", true}, {"Z", "P", false}, {"I", "A", false}} {
		if got := Is(u, c.name, c.what); got != c.want {
			t.Errorf("P6.1: Is(%q, %q): %v", c.name, c.what, got)
		}
	}
}

func TestMethod(t *testing.T) {
	u := read(t, family)
	for _, c := range []struct {
		d    int
		name string
		want api.Where
		ok   bool
	}{{2, "M", api.Where{Decl: 2, Method: 0}, true}, {2, "K", api.Where{Decl: 2, Method: 1}, true}, {3, "M", api.Where{Decl: 3, Method: 0}, true}, {4, "M", api.Where{Decl: 3, Method: 0}, true},
		{4, "K", api.Where{Decl: 2, Method: 1}, true}, {4, "N", api.Where{}, false}, {0, "N", api.Where{Decl: 0, Method: 1}, true}, {0, "M", api.Where{}, true}, {0, "K", api.Where{}, false},
		{8, "Mx", api.Where{Decl: 7, Method: 0}, true}, {5, "M", api.Where{}, false}, {6, "M", api.Where{}, false}, {-1, "M", api.Where{}, false}, {99, "M", api.Where{}, false}} {
		if got, ok := Method(u, c.d, c.name); got != c.want || ok != c.ok {
			t.Errorf("P6.2: Method(%d, %q): %v, %v", c.d, c.name, got, ok)
		}
	}
}

func names(vars []api.Var) string {
	text := ""
	for _, v := range vars {
		text += v.Name
	}
	return text
}

func TestFields(t *testing.T) {
	u := read(t, family)
	for d, want := range []string{"", "", "ab", "abc", "abcd", "pq", "", "yx", "xy", "", "abcd"} {
		if got := Fields(u, d); names(got) != want {
			t.Errorf("P6.2: Fields(%d): %v", d, got)
		}
	}
	if Fields(u, -1) != nil || Fields(u, 99) != nil {
		t.Error("P6.2: Fields of none")
	}
	for _, d := range []int{2, 5} {
		got := Fields(u, d)
		got[0].Name, got = "changed", append(got[:1], api.Var{Name: "changed"})
		if u.Decls[d].Vars[0].Name == "changed" || u.Decls[d].Vars[1].Name == "changed" {
			t.Error("R4: Fields")
		}
	}
}

func TestAlike(t *testing.T) {
	i, b := api.Type{Kind: api.Int}, api.Type{Kind: api.Bool}
	m := func(result api.Type, types ...api.Type) api.Method {
		m := api.Method{Name: "M" + strconv.Itoa(len(types)), Result: result}
		for n, t := range types {
			m.Params = append(m.Params, api.Var{Name: strconv.Itoa(n) + t.Name, Type: t, Init: n})
		}
		return m
	}
	r := func(name string) api.Type { return api.Type{Kind: api.Ref, Name: name} }
	for _, c := range []struct {
		a, b api.Method
		want bool
	}{{m(i), m(i), true}, {m(i), m(b), false}, {m(i, i, b), m(i, i, b), true}, {m(i, i, b), m(i, b, i), false}, {m(i, i), m(i, i, i), false}, {m(i, r("A")), m(i, r("B")), false}, {m(i, r("A")), m(i, r("A")), true},
		{m(api.Type{}), m(api.Type{}), true}, {m(api.Type{}), m(i), false}, {m(i, api.Type{Kind: api.Range, Lo: 1, Hi: 2}), m(i, api.Type{Kind: api.Range, Lo: 1, Hi: 3}), false}} {
		if got := Alike(c.a, c.b); got != c.want {
			t.Errorf("P6.2: Alike(%v, %v): %v", c.a, c.b, got)
		}
	}
	named := m(i, i)
	named.Params[0].Name, named.Over, named.Abstract = "other", true, true
	if !Alike(named, m(i, i)) {
		t.Error("P6.2: names of parameters")
	}
}

func TestLongChains(t *testing.T) {
	var u api.Unit
	for i := range 60000 {
		u.Decls = append(u.Decls, api.Decl{Kind: api.Class, Name: "C" + strconv.Itoa(i), Base: "C" + strconv.Itoa(i+1), Faces: []string{"I"}, Vars: make([]api.Var, 1)})
	}
	if len(Chain(u, 0)) != 60000 || len(Fields(u, 1)) != 59999 || Faces(u, 0) != nil || !Is(u, "C0", "C59999") || Is(u, "C1", "C0") {
		t.Error("P6.1: a long chain")
	}
	u.Decls = append(u.Decls, api.Decl{Kind: api.Interface, Name: "I"}, api.Decl{Kind: api.Interface, Name: "C7"})
	if !slices.Equal(Faces(u, 0), []int{60000}) || len(Chain(u, 7)) != 59993 {
		t.Error("P6.1: the first of a name")
	}
}
