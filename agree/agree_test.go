package agree

import (
	"reflect"
	"strings"
	"testing"

	"governor/api"
	"governor/samples"
)

func scans(n int, seed int) []api.Scan {
	var all []api.Scan
	for i := range n {
		all = append(all, api.Scan{In: []int{i * seed, seed - i, i % 2, -i * 70000}[:i%5], Ticks: (i + seed) % 4})
	}
	return all
}

func TestAgree(t *testing.T) {
	states := map[int]int{}
	refused := 0
	for seed := range 600 {
		src := samples.Source(seed)
		given := scans(8+seed%7, seed)
		a, fine := Source(src, given...)
		b, ran := Machine(src, given...)
		if fine != ran || !Same(a, b) || !Agree(src, given...) {
			t.Fatalf("P24.1: %d: %v, %v: %s", seed, a, b, src)
		}
		if !fine {
			refused++
			if a != nil || b != nil {
				t.Errorf("R2: %d", seed)
			}
			continue
		}
		states[a[len(a)-1].State]++
	}
	for state := range 7 {
		if states[state] == 0 {
			t.Errorf("the samples tell %v", states)
		}
	}
	if refused == 0 || refused > 200 {
		t.Errorf("%d samples are refused", refused)
	}
}

// TestExamples holds the examples of the whole.
func TestExamples(t *testing.T) {
	const class = "CLASS A ; VAR n : INT ; METHOD M ( ) : INT ; RETURN 1 ; END_METHOD END_CLASS CLASS B EXTENDS A ; METHOD OVERRIDE M ( ) : INT ; RETURN 2 ; END_METHOD END_CLASS CLASS C ; END_CLASS "
	const task = " TASK T ( INTERVAL 1 , PRIORITY 0 ) : P ;"
	for _, c := range []struct {
		src        string
		out, state int
		ok         bool
	}{
		{"PROGRAM P ; VAR x : INT AT IN 0 ; VAR y : INT AT OUT 1 ; y := x + 1 ; END_PROGRAM" + task, 42, 0, true},
		{"PROGRAM P ; VAR y : INT AT OUT 1 ; y := 32767 + 1 ; END_PROGRAM" + task, -32768, 0, true},
		{"PROGRAM P ; VAR x : INT ; VAR y : INT := 3 AT OUT 1 ; y := 5 ; y := 1 / x ; END_PROGRAM" + task, 0, api.DivZero, true},
		{class + "PROGRAM P ; VAR r : REF_TO A ; VAR b : B ; VAR y : INT AT OUT 1 ; r := REF ( b ) ; y := r . M ( ) ; END_PROGRAM" + task, 2, 0, true},
		{class + "PROGRAM P ; VAR r : REF_TO A ; VAR y : INT AT OUT 1 ; y := r . M ( ) ; END_PROGRAM" + task, 0, api.NullFault, true},
		{class + "PROGRAM P ; VAR r : REF_TO A ; VAR c : C ; VAR y : BOOL AT OUT 1 ; r ?= REF ( c ) ; y := r = NULL ; END_PROGRAM" + task, 1, 0, true},
		{class + "PROGRAM P ; VAR r : REF_TO A ; VAR c : C ; r := AS A ( REF ( c ) ) ; END_PROGRAM" + task, 0, api.CastFault, true},
		{"PROGRAM P ; WHILE TRUE DO END_WHILE ; END_PROGRAM" + task, 0, api.Watchdog, true},
		{"CLASS A ; METHOD M ( ) ; THIS . M ( ) ; END_METHOD END_CLASS", 0, 0, false}, {"PROGRAM P ; VAR x : REAL ; END_PROGRAM", 0, 0, false},
	} {
		for name, tell := range map[string]func(string, ...api.Scan) ([]api.Shown, bool){"Source": Source, "Machine": Machine} {
			got, ok := tell(c.src, api.Scan{In: []int{41}, Ticks: 1})
			if ok != c.ok || !ok && got != nil || ok && (got[0].Out[1] != c.out || got[0].State != c.state) {
				t.Errorf("P24.1: %s: %s: %v, %v", name, c.src, got, ok)
			}
		}
	}
	both := "PROGRAM P ; VAR y : INT AT OUT 0 ; VAR z : INT AT OUT 1 ; y := y * 2 + 1 ; END_PROGRAM"
	if !Agree(both, api.Scan{Ticks: 1}) || !Agree("") || !Agree("x") {
		t.Error("P24.1: Agree")
	}
}

func TestSame(t *testing.T) {
	shown := func(state int, out ...int) api.Shown { return api.Shown{Out: out, State: state} }
	for i, c := range []struct {
		a, b []api.Shown
		want bool
	}{
		{nil, nil, true}, {nil, []api.Shown{}, true}, {nil, []api.Shown{{}}, false}, {[]api.Shown{shown(1, 2, 3)}, []api.Shown{shown(1, 2, 3)}, true}, {[]api.Shown{shown(1, 2, 3)}, []api.Shown{shown(2, 2, 3)}, false}, {[]api.Shown{shown(1, 2, 3)}, []api.Shown{shown(1, 2, 4)}, false},
		{[]api.Shown{shown(1, 2, 3)}, []api.Shown{shown(1, 2)}, false}, {[]api.Shown{shown(1)}, []api.Shown{{Out: []int{}, State: 1}}, true}, {[]api.Shown{shown(0, 1), shown(0, 2)}, []api.Shown{shown(0, 2), shown(0, 1)}, false}, {[]api.Shown{shown(0, 1), shown(0, 2)}, []api.Shown{shown(0, 1)}, false},
	} {
		if Same(c.a, c.b) != c.want || Same(c.b, c.a) != c.want {
			t.Errorf("P24.1: Same, the %d-th", i)
		}
	}
}

func TestScans(t *testing.T) {
	src := "PROGRAM P ; VAR x : INT AT IN 0 ; VAR y : INT AT OUT 0 ; y := y + x ; END_PROGRAM TASK T ( INTERVAL 1 , PRIORITY 0 ) : P ;"
	for n, want := range map[int]int{0: 0, 1: 1, 59: 59, 60: 60, 61: 60, 100: 60} {
		given := scans(n, 1)
		a, _ := Source(src, given...)
		b, _ := Machine(src, given...)
		if len(a) != want || len(b) != want || !reflect.DeepEqual(given, scans(n, 1)) {
			t.Errorf("P24.1: of %d: %d, %d", n, len(a), len(b))
		}
	}
	long := "PROGRAM P ; VAR x : INT AT OUT 0 ; " + strings.Repeat("x := x + 1 ; ", 24) + "END_PROGRAM TASK T ( INTERVAL 1 , PRIORITY 0 ) : P ;"
	if a, ok := Source(long, scans(60, 1)...); !ok || a[59].Out[0] != 45*24 || !Agree(long, scans(60, 1)...) {
		t.Errorf("P24.1: %v", a[59])
	}
}
