package console

import (
	"strconv"
	"strings"
	"testing"

	"governor/api"
	"governor/compile"
	"governor/diag"
	"governor/print"
	"governor/samples"
	"governor/script"
)

const adder = "PROGRAM P ; VAR x : INT AT IN 0 ; VAR y : INT AT OUT 1 ; y := x + 1 ; END_PROGRAM TASK T ( INTERVAL 1 , PRIORITY 0 ) : P ;"

func src(s string) string { return "src " + script.Hex(s) + "\n" }

const commands = "!check\n!print\n!plant\n!run\n!agree\n!depth\n"

func play(t *testing.T, s string) string {
	t.Helper()
	told, err := Run(s)
	if err != nil {
		t.Fatal(err)
	}
	return told
}

func TestCommands(t *testing.T) {
	u, _ := compile.Unit(adder)
	tree := script.Hex(print.Unit(u))
	const ring = "CLASS A ; METHOD M ( ) ; THIS . M ( ) ; END_METHOD END_CLASS"
	for _, c := range []struct{ text, want string }{
		{"", ""}, {"!check", "yes\n"}, {"!check\n", "yes\n"}, {commands, "yes\n-\n-\n-\nyes\n0\n"},
		{src(adder) + commands, "yes\n" + tree + "\n-\n-\nyes\n1\n"},
		{src(adder) + "scan 1 41\n" + commands, "yes\n" + tree + "\n0,42,0,0,0,0,0,0/0\n0,42,0,0,0,0,0,0/0\nyes\n1\n"},
		{src(adder) + "scan 1 41\nscan 0 7\nscan 1 -9\n!plant\n!run\n", strings.Repeat("0,42,0,0,0,0,0,0/0 0,42,0,0,0,0,0,0/0 0,-8,0,0,0,0,0,0/0\n", 2)},
		{src("PROGRAM P ; WHILE TRUE DO END_WHILE ; END_PROGRAM TASK T ( INTERVAL 1 , PRIORITY 0 ) : P ;") + "scan 1\n!plant\n!run", strings.Repeat("0,0,0,0,0,0,0,0/6\n", 2)},
		{src("PROGRAM P ; x := 1 ; END_PROGRAM TASK T ( INTERVAL 1 , PRIORITY 0 ) : Q ;") + "scan 1\n" + commands, "13:0 17:33\nerror\nerror\nerror\nyes\nerror\n"},
		{src("x") + commands, "3:0\nerror\nerror\nerror\nyes\nerror\n"}, {src(ring) + "!check\n!depth\n", "18:0\nerror\n"},
		{"!nix\n!\n! check\n!check \n!Check\n!check!\n!check\r\n", strings.Repeat("error\n", 7)},
		// A command tells of what was gathered ahead of it.
		{"!check\n" + src(adder[:20]) + "!check\n" + src(adder[20:]) + "!check\n!plant\nscan 1 41\n!plant\nscan 0\n!plant\n", "yes\n3:20\nyes\n-\n0,42,0,0,0,0,0,0/0\n0,42,0,0,0,0,0,0/0 0,42,0,0,0,0,0,0/0\n"},
		// Lines that script does not read: the first of them is told, by its number among those that were gathered.
		{"!check\nx\n" + commands, "yes\n" + strings.Repeat("error 1\n", 6)}, {"src -\n!check\nscan 1\n!check\nscan\nsrc\n!check\n!nix\nscan 1\n!run\n", "yes\nyes\nerror 3\nerror 3\nerror 3\n"}, {"\n!check\n", "error 1\n"}, {"x\ny\n!check\nsrc -\nz\n!check\n", "error 1\nerror 1\n"}, {"src -\n\n!check", "error 2\n"}, {" !check\n!check", "error 1\n"}, {"x", ""}, {"scan 1\nscan 2", ""},
	} {
		if got := play(t, c.text); got != c.want {
			t.Errorf("P26.1: %q: %q, want %q", c.text, got, c.want)
		}
	}
}

func TestManyScans(t *testing.T) {
	text := src(adder)
	for i := range 62 {
		text += "scan 1 " + strconv.Itoa(i) + "\n!run\n"
	}
	lines := strings.Split(play(t, text), "\n")
	for i, line := range lines[:62] {
		if got := len(strings.Fields(line)); got != min(i+1, api.MaxScans) {
			t.Errorf("P26.1: of %d scans: %d", i+1, got)
		}
	}
	if lines[59] != lines[61] {
		t.Error("P26.1: more than MaxScans")
	}
}

func TestFull(t *testing.T) {
	for n, ok := range map[int]bool{api.MaxScript: true, api.MaxScript + 1: false, 1 << 20: false} {
		told, err := Run("!check\n" + strings.Repeat("x", n-7))
		code, at, _ := diag.Find(err)
		if ok && (err != nil || told != "yes\n") || !ok && (told != "" || code != api.Full || at != 0) {
			t.Errorf("P26.1: %d bytes: %q, %v", n, told, err)
		}
	}
	if told, err := Run(strings.Repeat("!run\n", api.MaxScript/5)); err != nil || strings.Count(told, "-\n") != api.MaxScript/5 {
		t.Error("P26.1: many commands")
	}
}

// TestBeginnings holds P26.2.
func TestBeginnings(t *testing.T) {
	text := ""
	for seed := range 6 {
		text += src(samples.Source(seed)) + commands + "scan 1 " + strconv.Itoa(seed) + "\n" + commands
		if seed == 4 {
			text += "scan\n"
		}
	}
	whole := play(t, text)
	lines := strings.SplitAfter(text, "\n")
	for n := range lines {
		if told := play(t, strings.Join(lines[:n], "")); !strings.HasPrefix(whole, told) {
			t.Errorf("P26.2: of %d lines", n)
		}
	}
	if strings.Count(whole, "\n") != strings.Count(text, "!") {
		t.Error("P26.1: a line for each command")
	}
}

func TestSamples(t *testing.T) {
	for seed := range 40 {
		text, err := script.Print(samples.Source(seed), api.Scan{Ticks: 1, In: []int{seed}}, api.Scan{Ticks: 2})
		if err != nil {
			t.Fatal(err)
		}
		lines := strings.Split(play(t, text+"!plant\n!run\n!agree\n"), "\n")
		if lines[0] != lines[1] || lines[2] != "yes" {
			t.Errorf("T1: %d: %v", seed, lines)
		}
	}
}
