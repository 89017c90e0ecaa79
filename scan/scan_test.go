package scan_test

import (
	"reflect"
	"slices"
	"strconv"
	"strings"
	"testing"

	"governor/api"
	"governor/diag"
	"governor/gen"
	"governor/plant"
	"governor/samples"
	"governor/scan"
	"governor/syntax"
)

func image(t *testing.T, src string) api.Image {
	t.Helper()
	u, _, err := syntax.Parse(src)
	if err != nil {
		t.Fatal(src, err)
	}
	im, err := gen.Image(u)
	if err != nil {
		t.Fatal(src, err)
	}
	return im
}

// text writes what scans told: the first outputs, and the state.
func text(shown []api.Shown) string {
	var all []string
	for _, s := range shown {
		if len(s.Out) != api.MaxSlots {
			return "not so many outputs"
		}
		line := ""
		for _, n := range s.Out[:4] {
			line += strconv.Itoa(n) + ","
		}
		all = append(all, line+strconv.Itoa(s.State))
	}
	return strings.Join(all, " ")
}

func ticks(all ...int) []api.Scan {
	var scans []api.Scan
	for i, n := range all {
		scans = append(scans, api.Scan{In: []int{i + 1, 10 * (i + 1)}, Ticks: n})
	}
	return scans
}

func TestScans(t *testing.T) {
	for _, c := range []struct {
		src   string
		ticks []int
		want  string
	}{
		{"PROGRAM P ; VAR x : INT AT IN 0 ; VAR y : INT AT OUT 1 ; y := x + 1 ; END_PROGRAM TASK T ( INTERVAL 1 , PRIORITY 0 ) : P ;", []int{1, 1, 0, 5}, "0,2,0,0,0 0,3,0,0,0 0,3,0,0,0 0,5,0,0,0"},
		{"", []int{1, 2}, "0,0,0,0,0 0,0,0,0,0"},
		{"PROGRAM P ; VAR y : INT := 7 AT OUT 1 ; VAR b : BOOL := 1 AT OUT 0 ; y := 9 ; END_PROGRAM", []int{1, 0}, "1,7,0,0,0 1,7,0,0,0"},
		{"PROGRAM P ; VAR y : INT AT OUT 0 ; y := y + 1 ; END_PROGRAM TASK T ( INTERVAL 3 , PRIORITY 0 ) : P ;", []int{2, 1, 1, 2, 9, -4, 1}, "0,0,0,0,0 1,0,0,0,0 1,0,0,0,0 2,0,0,0,0 3,0,0,0,0 3,0,0,0,0 3,0,0,0,0"},
		{"PROGRAM P ; VAR x : INT AT IN 0 ; VAR y : INT AT OUT 0 ; y := x ; y := 6 / ( x - 3 ) ; END_PROGRAM TASK T ( INTERVAL 1 , PRIORITY 0 ) : P ;", []int{1, 1, 1, 1}, "-3,0,0,0,0 -6,0,0,0,0 -6,0,0,0,4 -6,0,0,0,4"},
		// The one of lesser First runs first: what faults behind it leaves no output.
		{"PROGRAM P ; WHILE TRUE DO END_WHILE ; END_PROGRAM PROGRAM Q ; VAR y : INT AT OUT 3 ; y := y + 1 ; END_PROGRAM TASK T ( INTERVAL 3 , PRIORITY 1 ) : P ; TASK S ( INTERVAL 1 , PRIORITY 0 ) : Q ;", []int{1, 1, 1, 1}, "0,0,0,1,0 0,0,0,2,0 0,0,0,2,6 0,0,0,2,6"},
		{"PROGRAM P ; VAR t : TON ; VAR y : INT AT OUT 0 ; STEP t ( TRUE , 32000 ) ; y := COUNT ( t ) ; END_PROGRAM TASK T ( INTERVAL 4 , PRIORITY 0 ) : P ;", []int{3, 2, 2, 3, 5000, 999, 2}, "0,0,0,0,0 0,0,0,0,0 0,0,0,0,0 5,0,0,0,0 1005,0,0,0,0 2004,0,0,0,0 2004,0,0,0,0"},
	} {
		told, err := scan.Run(image(t, c.src), ticks(c.ticks...)...)
		if got := text(told); err != nil || got != c.want {
			t.Errorf("P22.2: %s: %s, %v, want %s", c.src, got, err, c.want)
		}
	}
}

func TestSteps(t *testing.T) {
	im := image(t, "PROGRAM P ; VAR x : INT AT IN 0 ; VAR y : INT AT OUT 0 ; FOR y := 1 TO x BY 1 DO END_FOR ; END_PROGRAM PROGRAM Q ; VAR z : INT AT OUT 1 ; z := 1 ; END_PROGRAM "+
		"TASK T ( INTERVAL 1 , PRIORITY 0 ) : P ; TASK S ( INTERVAL 1 , PRIORITY 1 ) : Q ;")
	for x, state := range map[int]int{3991: 0, 3992: 0, 3993: api.Watchdog, 3994: api.Watchdog, 3995: api.Watchdog, 3996: api.Watchdog} {
		told, err := scan.Run(im, api.Scan{In: []int{x}, Ticks: 1})
		if err != nil || told[0].State != state || (told[0].Out[1] == 1) != (state == 0) {
			t.Errorf("P22.2: %d: %v, %v", x, told, err)
		}
	}
}

func TestBools(t *testing.T) {
	im := image(t, "PROGRAM P ; VAR b : BOOL AT OUT 2 ; VAR n : INT AT OUT 1 ; n := 5 ; END_PROGRAM TASK T ( INTERVAL 1 , PRIORITY 0 ) : P ;")
	im.Outs = append(im.Outs, api.Link{Global: 1, Slot: 0, Bool: true})
	if told, err := scan.Run(im, api.Scan{Ticks: 1}); err != nil || text(told) != "1,5,0,0,0" {
		t.Errorf("P22.2: %v, %v", told, err)
	}
}

func TestRunner(t *testing.T) {
	im := image(t, "PROGRAM P ; VAR x : INT AT IN 0 ; VAR y : INT AT OUT 1 ; y := 10 / x ; END_PROGRAM TASK T ( INTERVAL 1 , PRIORITY 0 ) : P ;")
	r, err := scan.New(im)
	if err != nil || r.Time() != 0 || r.VM() == nil || r.VM() != r.VM() {
		t.Fatal("P22.1: New", err)
	}
	im.Outs[0].Slot, im.Jobs[0].Every = 5, 9
	in := []int{5}
	told := r.Scan(api.Scan{In: in, Ticks: 2000})
	in[0] = 7
	if n, _ := r.VM().Global(1); r.Time() != 1000 || n != 2 {
		t.Errorf("P22.1: %d, %d", r.Time(), n)
	}
	told.Out[1], told.Out[2] = 9, 9
	if again := r.Scan(api.Scan{In: in}); !slices.Equal(again.Out, []int{0, 2, 0, 0, 0, 0, 0, 0}) {
		t.Errorf("R4: %v", again)
	}
	for _, scan := range []api.Scan{{Ticks: 1}, {In: in, Ticks: 1}} {
		if failed := r.Scan(scan); failed.State != api.DivZero || failed.Out[1] != 2 || r.Time() != 1001 {
			t.Errorf("P22.2: %v at %d", failed, r.Time())
		}
	}
	var none *scan.Runner
	if none.Time() != 0 || none.VM() != nil || !reflect.DeepEqual(none.Scan(api.Scan{}), api.Shown{}) {
		t.Error("R3: no runner")
	}
}

func TestRun(t *testing.T) {
	bad := api.Image{D: 1}
	r, err := scan.New(bad)
	if code, at, _ := diag.Find(err); r != nil || code != api.Unsafe || at != 0 {
		t.Errorf("P22.1: New: %v", err)
	}
	told, err := scan.Run(bad, api.Scan{})
	if code, at, _ := diag.Find(err); told != nil || code != api.Unsafe || at != 0 {
		t.Errorf("P22.1: Run: %v", err)
	}
	for n, want := range map[int]int{0: 0, 1: 1, 60: 60, 61: 60, 200: 60} {
		if told, err := scan.Run(api.Image{}, make([]api.Scan, n)...); err != nil || len(told) != want {
			t.Errorf("P22.1: of %d scans: %d, %v", n, len(told), err)
		}
	}
}

// TestAsPlant holds runners against plants.
func TestAsPlant(t *testing.T) {
	for seed := range 100 {
		u, _, err := syntax.Parse(samples.Source(seed))
		if err != nil {
			continue
		}
		im, err := gen.Image(u)
		if err != nil {
			continue
		}
		scans := ticks(1, 1, 2, 0, 3, 1, 1, seed)
		a, _ := plant.Run(u, scans...)
		b, _ := scan.Run(im, scans...)
		if !reflect.DeepEqual(a, b) {
			t.Errorf("P22.2: %d: %v, %v", seed, a, b)
		}
	}
}
