package plant

import (
	"reflect"
	"slices"
	"strconv"
	"strings"
	"testing"

	"governor/api"
	"governor/diag"
	"governor/syntax"
)

func read(t *testing.T, src string) api.Unit {
	t.Helper()
	u, _, err := syntax.Parse(src)
	if err != nil {
		t.Fatal(src, err)
	}
	return u
}

// text writes what scans told: outputs up to the last that is not 0, and the state.
func text(shown []api.Shown) string {
	var all []string
	for _, s := range shown {
		if len(s.Out) != api.MaxSlots {
			return "not so many outputs"
		}
		line := ""
		for _, n := range s.Out[:4] {
			line += strconv.Itoa(n) + ","
		}
		all = append(all, line+strconv.Itoa(s.State))
	}
	return strings.Join(all, " ")
}

func ticks(all ...int) []api.Scan {
	var scans []api.Scan
	for i, n := range all {
		scans = append(scans, api.Scan{In: []int{i + 1, 10 * (i + 1)}, Ticks: n})
	}
	return scans
}

func TestScans(t *testing.T) {
	for _, c := range []struct {
		src   string
		ticks []int
		want  string
	}{
		{"PROGRAM P ; VAR x : INT AT IN 0 ; VAR y : INT AT OUT 1 ; y := x + 1 ; END_PROGRAM TASK T ( INTERVAL 1 , PRIORITY 0 ) : P ;", []int{1, 1, 0, 5}, "0,2,0,0,0 0,3,0,0,0 0,3,0,0,0 0,5,0,0,0"},
		{"", []int{1, 2}, "0,0,0,0,0 0,0,0,0,0"},
		{"PROGRAM P ; VAR y : INT := 7 AT OUT 1 ; VAR b : BOOL := 1 AT OUT 0 ; y := 9 ; END_PROGRAM", []int{1, 0}, "1,7,0,0,0 1,7,0,0,0"},
		// Every third tick, and at most once a scan.
		{"PROGRAM P ; VAR y : INT AT OUT 0 ; y := y + 1 ; END_PROGRAM TASK T ( INTERVAL 3 , PRIORITY 0 ) : P ;", []int{2, 1, 1, 2, 9, -4, 1}, "0,0,0,0,0 1,0,0,0,0 1,0,0,0,0 2,0,0,0,0 3,0,0,0,0 3,0,0,0,0 3,0,0,0,0"},
		// The lesser priority first, then as declared.
		{"PROGRAM A ; VAR x : INT AT OUT 0 ; END_PROGRAM PROGRAM B ; VAR f : REF_TO Z ; VAR y : INT AT OUT 1 ; f . M ( ) ; END_PROGRAM PROGRAM C ; VAR z : INT AT OUT 2 ; z := z + 1 ; END_PROGRAM CLASS Z ; METHOD M ( ) ; END_METHOD END_CLASS" +
			" TASK TB ( INTERVAL 2 , PRIORITY 4 ) : B ; TASK TC ( INTERVAL 1 , PRIORITY 3 ) : C ;", []int{1, 1, 1}, "0,0,1,0,0 0,0,1,0,1 0,0,1,0,1"},
		// A fault stops all at once: outputs stay, and it is told from then on.
		{"PROGRAM P ; VAR x : INT AT IN 0 ; VAR y : INT AT OUT 0 ; y := x ; y := 6 / ( x - 3 ) ; END_PROGRAM TASK T ( INTERVAL 1 , PRIORITY 0 ) : P ;", []int{1, 1, 1, 1}, "-3,0,0,0,0 -6,0,0,0,0 -6,0,0,0,4 -6,0,0,0,4"},
		{"PROGRAM P ; WHILE TRUE DO END_WHILE ; END_PROGRAM PROGRAM Q ; VAR y : INT AT OUT 3 ; y := 1 ; END_PROGRAM TASK S ( INTERVAL 1 , PRIORITY 0 ) : Q ; TASK T ( INTERVAL 1 , PRIORITY 1 ) : P ;", []int{0, 1, 1}, "0,0,0,0,0 0,0,0,0,6 0,0,0,0,6"},
		// A block is told the time since its program was run last, at most MaxTicks.
		{"PROGRAM P ; VAR t : TON ; VAR y : INT AT OUT 0 ; STEP t ( TRUE , 32000 ) ; y := COUNT ( t ) ; END_PROGRAM TASK T ( INTERVAL 4 , PRIORITY 0 ) : P ;", []int{3, 2, 2, 3, 5000, 999, 2}, "0,0,0,0,0 0,0,0,0,0 0,0,0,0,0 5,0,0,0,0 1005,0,0,0,0 2004,0,0,0,0 2004,0,0,0,0"},
	} {
		told, err := Run(read(t, c.src), ticks(c.ticks...)...)
		if got := text(told); err != nil || got != c.want {
			t.Errorf("P13.2: %s: %s, %v, want %s", c.src, got, err, c.want)
		}
	}
}

// TestSteps holds what is left of MaxSteps: two programs share it.
func TestSteps(t *testing.T) {
	const src = "PROGRAM P ; VAR x : INT AT IN 0 ; VAR y : INT AT OUT 0 ; FOR y := 1 TO x BY 1 DO END_FOR ; END_PROGRAM PROGRAM Q ; VAR z : INT AT OUT 1 ; z := 1 ; END_PROGRAM " +
		"TASK T ( INTERVAL 1 , PRIORITY 0 ) : P ; TASK S ( INTERVAL 1 , PRIORITY 1 ) : Q ;"
	// P costs x + 5, Q costs 3.
	for x, state := range map[int]int{3991: 0, 3992: 0, 3993: api.Watchdog, 3994: api.Watchdog, 3995: api.Watchdog, 3996: api.Watchdog} {
		told, err := Run(read(t, src), api.Scan{In: []int{x}, Ticks: 1})
		if err != nil || told[0].State != state || (told[0].Out[1] == 1) != (state == 0) {
			t.Errorf("P13.2: %d: %v, %v", x, told, err)
		}
	}
}

func TestPlant(t *testing.T) {
	u := read(t, "PROGRAM P ; VAR x : INT AT IN 0 ; VAR y : INT AT OUT 1 ; y := 10 / x ; END_PROGRAM TASK T ( INTERVAL 1 , PRIORITY 0 ) : P ;")
	p, err := New(u)
	if err != nil || p.Time() != 0 || p.Mem() == nil || p.Mem() != p.Mem() {
		t.Fatal("P13.1: New", err)
	}
	in := []int{5}
	told := p.Scan(api.Scan{In: in, Ticks: 2000})
	in[0] = 7
	if n, _ := p.Mem().Get("P", "y", 0); p.Time() != 1000 || n != 2 {
		t.Errorf("P13.1: %d, %d", p.Time(), n)
	}
	told.Out[1], told.Out[2] = 9, 9
	if again := p.Scan(api.Scan{In: in}); !slices.Equal(again.Out, []int{0, 2, 0, 0, 0, 0, 0, 0}) {
		t.Errorf("R4: %v", again)
	}
	if failed := p.Scan(api.Scan{Ticks: 1}); failed.State != api.DivZero || failed.Out[1] != 2 || p.Time() != 1001 {
		t.Errorf("P13.2: %v at %d", failed, p.Time())
	}
	if failed := p.Scan(api.Scan{In: in, Ticks: 1}); failed.State != api.DivZero || failed.Out[1] != 2 || p.Time() != 1001 {
		t.Errorf("P13.2: behind a fault: %v at %d", failed, p.Time())
	}
	var none *Plant
	if none.Time() != 0 || none.Mem() != nil || !reflect.DeepEqual(none.Scan(api.Scan{}), api.Shown{}) {
		t.Error("R3: no plant")
	}
}

func TestRun(t *testing.T) {
	bad := read(t, "TASK T ( INTERVAL 1 , PRIORITY 0 ) : P ;")
	p, err := New(bad)
	if code, at, _ := diag.Find(err); p != nil || code != api.Arg || at != 0 {
		t.Errorf("P13.1: New: %v", err)
	}
	told, err := Run(bad, api.Scan{})
	if code, at, _ := diag.Find(err); told != nil || code != api.Arg || at != 0 {
		t.Errorf("P13.1: Run: %v", err)
	}
	for n, want := range map[int]int{0: 0, 1: 1, 60: 60, 61: 60, 200: 60} {
		if told, err := Run(api.Unit{}, make([]api.Scan, n)...); err != nil || len(told) != want {
			t.Errorf("P13.1: of %d scans: %d, %v", n, len(told), err)
		}
	}
}

func TestInputsOfAllPrograms(t *testing.T) {
	// Q's output shows what was latched when P ran: inputs are those of all programs.
	const src = "PROGRAM P ; END_PROGRAM PROGRAM Q ; VAR x : INT AT IN 1 ; VAR y : INT AT OUT 0 ; y := x ; END_PROGRAM TASK T ( INTERVAL 1 , PRIORITY 0 ) : P ; TASK S ( INTERVAL 2 , PRIORITY 0 ) : Q ;"
	p, err := New(read(t, src))
	if err != nil {
		t.Fatal(err)
	}
	for i, want := range []string{"0 10", "20 20", "20 30"} {
		told := p.Scan(ticks(1, 1, 1)[i])
		n, _ := p.Mem().Get("Q", "x", 0)
		if got := strconv.Itoa(told.Out[0]) + " " + strconv.Itoa(n); got != want {
			t.Errorf("P13.2: scan %d: %s, want %s", i, got, want)
		}
	}
}
