package script

import (
	"math"
	"math/rand"
	"reflect"
	"strings"
	"testing"

	"governor/api"
	"governor/diag"
)

func TestHex(t *testing.T) {
	for b, want := range map[string]string{"": "-", "\x00": "00", "\x0fz": "0f7a", "\xff\xa0": "ffa0", "-": "2d", "ä": "c3a4"} {
		if got := Hex(b); got != want {
			t.Errorf("P25.1: Hex(%q): %s", b, got)
		}
		if got, ok := Bytes(want); got != b || !ok {
			t.Errorf("P25.1: Bytes(%q): %q, %v", want, got, ok)
		}
	}
	for _, s := range []string{"", "0", "0f7A", "0f7", "g0", "0g", " 00", "00 ", "--", "-0", "0x", "00-", "\xff\xff", "0F"} {
		if got, ok := Bytes(s); got != "" || ok {
			t.Errorf("P25.1: Bytes(%q): %q, %v", s, got, ok)
		}
	}
	all := ""
	for b := range 256 {
		all += string([]byte{byte(b)})
	}
	if got, ok := Bytes(Hex(all)); got != all || !ok || len(Hex(all)) != 512 {
		t.Error("P25.1: all bytes")
	}
}

func TestPrint(t *testing.T) {
	for _, c := range []struct {
		src   string
		scans []api.Scan
		want  string
	}{
		{"", nil, "src -\n"}, {"ab", nil, "src 6162\n"}, {"", []api.Scan{{}}, "src -\nscan 0\n"}, {"a", []api.Scan{{Ticks: -5, In: []int{0, -1, 1 << 31, -1 << 31}}, {Ticks: 1 << 31}}, "src 61\nscan -5 0 -1 2147483648 -2147483648\nscan 2147483648\n"},
		{"", []api.Scan{{In: make([]int, 16)}}, "src -\nscan 0" + strings.Repeat(" 0", 16) + "\n"}, {strings.Repeat("x", 32765), nil, "src " + strings.Repeat("78", 32765) + "\n"},
	} {
		got, err := Print(c.src, c.scans...)
		if err != nil || got != c.want {
			t.Errorf("P25.1: Print: %.80q, %v, want %.80q", got, err, c.want)
		}
	}
	many := make([]api.Scan, 9362) // 5 bytes, and 7 for each: 65539
	for _, c := range []struct {
		src   string
		scans []api.Scan
		code  int
	}{
		{"", []api.Scan{{Ticks: 1<<31 + 1}}, api.Arg}, {"", []api.Scan{{Ticks: -1<<31 - 1}}, api.Arg}, {"", []api.Scan{{}, {In: []int{1, math.MinInt}}}, api.Arg}, {"", []api.Scan{{In: make([]int, 17)}}, api.Arg}, {"", []api.Scan{{In: []int{math.MaxInt}}}, api.Arg},
		{strings.Repeat("x", 32766), nil, api.Full}, {strings.Repeat("x", 100000), nil, api.Full}, {strings.Repeat("x", 100000), []api.Scan{{In: make([]int, 17)}}, api.Arg}, {strings.Repeat("x", 32765), make([]api.Scan, 1), api.Full}, {"", many, api.Full}, {"", many[:9361], api.Fine}, {strings.Repeat("x", 32762), make([]api.Scan, 1), api.Fine}, {strings.Repeat("x", 32763), make([]api.Scan, 1), api.Full},
	} {
		got, err := Print(c.src, c.scans...)
		code, at, _ := diag.Find(err)
		if code != c.code || at != 0 || c.code != api.Fine && got != "" || len(got) > api.MaxScript {
			t.Errorf("P25.1: Print: %d bytes, %v, want %d", len(got), err, c.code)
		}
	}
}

func TestParse(t *testing.T) {
	for _, c := range []struct {
		s     string
		src   string
		scans []api.Scan
	}{
		{"", "", nil}, {"src -", "", nil}, {"src -\n", "", nil}, {"src 61\nscan 1 2\nsrc 62\nsrc -\nscan -3", "ab", []api.Scan{{Ticks: 1, In: []int{2}}, {Ticks: -3}}}, {"scan 0\n", "", []api.Scan{{}}}, {"scan 2147483648 -2147483648 0\n", "", []api.Scan{{Ticks: 1 << 31, In: []int{-1 << 31, 0}}}},
		{"scan 1" + strings.Repeat(" 9", 16), "", []api.Scan{{Ticks: 1, In: []int{9, 9, 9, 9, 9, 9, 9, 9, 9, 9, 9, 9, 9, 9, 9, 9}}}},
	} {
		src, scans, err := Parse(c.s)
		if err != nil || src != c.src || !reflect.DeepEqual(scans, c.scans) {
			t.Errorf("P25.1: Parse(%q): %q, %v, %v", c.s, src, scans, err)
		}
	}
	for s, line := range map[string]int{"\n": 1, "src -\n\n": 2, "src -\n\nsrc -": 2, "src": 1, "src ": 1, "src 0": 1, "src 61 62": 1, "src  61": 1, " src 61": 1, "src 61 ": 1, "Src 61": 1, "src 6A": 1, "src\t61": 1, "src 61\r\n": 1, "scan": 1, "scan ": 1, "scan x": 1, "scan 01": 1, "scan -0": 1, "scan +1": 1, "scan 1  2": 1, "scan 1 ": 1, "scan 2147483649": 1, "scan -2147483649": 1, "scan 99999999999999999999999": 1,
		"scan 1" + strings.Repeat(" 9", 17): 1, "scan 1\nscan 1\nscans 1\nx": 3, "src 61\n!run\n": 2, "scan 1 00": 1, "scan 1_0": 1, "scan 0x1": 1, "scan -": 1} {
		src, scans, err := Parse(s)
		if code, at, _ := diag.Find(err); code != api.Line || at != line || src != "" || scans != nil {
			t.Errorf("P25.1: Parse(%q): %v, want line %d", s, err, line)
		}
	}
	full := "src " + strings.Repeat("00", 32765) + "\n"
	if src, _, err := Parse(full + "\n"); len(full) != 65535 || err == nil || src != "" {
		t.Error("P25.1: MaxScript")
	}
	if src, _, err := Parse(full); err != nil || len(src) != 32765 {
		t.Error("P25.1: MaxScript")
	}
	exact := "src " + strings.Repeat("00", 32762) + "\nscan 0\n"
	if src, scans, err := Parse(exact); len(exact) != api.MaxScript || err != nil || len(src) != 32762 || len(scans) != 1 {
		t.Errorf("P25.1: just MaxScript: %v", err)
	}
	if _, _, err := Parse(full + "xx"); !isFull(err) {
		t.Errorf("P25.1: more than MaxScript: %v", err)
	}
}

func isFull(err error) bool {
	code, at, _ := diag.Find(err)
	return code == api.Full && at == 0
}

func TestThereAndBack(t *testing.T) {
	random := rand.New(rand.NewSource(9))
	for range 2000 {
		b := make([]byte, random.Intn(30))
		random.Read(b)
		var scans []api.Scan
		for range random.Intn(4) {
			s := api.Scan{Ticks: random.Intn(1<<32) - 1<<31}
			for range random.Intn(17) {
				s.In = append(s.In, random.Intn(1<<32)-1<<31)
			}
			scans = append(scans, s)
		}
		text, err := Print(string(b), scans...)
		src, again, parsed := Parse(text)
		if err != nil || parsed != nil || src != string(b) || !reflect.DeepEqual(again, scans) {
			t.Fatalf("P25.2: %q: %v, %v", text, err, parsed)
		}
		if next, _ := Print(src, again...); next != text {
			t.Fatalf("P25.2: %q: %q", text, next)
		}
	}
}
