package block

import (
	"math"
	"testing"

	"governor/api"
)

// play steps a new block: in each step 1 or 0 is handed in; what is told is Q, and CV.
func play(kind int, pt int, dt int, in string) (string, []int) {
	b := New(kind)
	told := ""
	var counts []int
	for _, c := range in {
		b = Step(b, c == '1', pt, dt)
		if b.Q {
			told += "1"
		} else {
			told += "0"
		}
		counts = append(counts, b.CV)
	}
	return told, counts
}

func TestPlays(t *testing.T) {
	for _, c := range []struct {
		kind, pt, dt int
		in, want     string
		last         int
	}{
		{api.TON, 3, 2, "111", "001", 3}, {api.TON, 3, 2, "1101111", "0000011", 3}, {api.TON, 0, 1, "0101", "0101", 0}, {api.TON, 4, 2, "1111", "0011", 4}, {api.TON, 3, 0, "1111", "0000", 0},
		{api.TOF, 3, 2, "0100001", "0110001", 0}, {api.TOF, 3, 2, "100", "110", 3}, {api.TOF, 0, 1, "100", "100", 0}, {api.TOF, 4, 1, "101000", "111111", 3}, {api.TOF, 3, 2, "000", "000", 0},
		{api.TP, 3, 2, "1000", "1100", 3}, {api.TP, 3, 1, "111111", "111000", 3}, {api.TP, 3, 1, "1010101", "1110111", 2}, {api.TP, 0, 1, "101", "000", 0},
		{api.CTU, 2, 9, "110101", "000111", 3}, {api.CTU, 0, 0, "001", "111", 1}, {api.CTD, 2, 9, "010111", "000111", 0}, {api.CTD, 0, 9, "01", "11", 0}, {api.CTD, 1, 9, "0101", "0111", 0},
		{api.RTrig, 5, 5, "011010", "010010", 0}, {api.FTrig, 5, 5, "011010", "000101", 0}, {api.RTrig, 0, 0, "1", "1", 0}, {api.FTrig, 0, 0, "0", "0", 0},
	} {
		got, counts := play(c.kind, c.pt, c.dt, c.in)
		if got != c.want || counts[len(counts)-1] != c.last {
			t.Errorf("P10.1: kind %d, pt %d, dt %d, %s: %s, %v, want %s, %d", c.kind, c.pt, c.dt, c.in, got, counts, c.want, c.last)
		}
	}
}

func TestLimits(t *testing.T) {
	full := func(kind int, q bool, last bool, on bool, cv int) api.Block {
		return api.Block{Kind: kind, Q: q, Last: last, On: on, CV: cv}
	}
	for i, c := range []struct {
		b      api.Block
		in     bool
		pt, dt int
		want   api.Block
	}{
		{full(api.TON, false, true, true, 5), true, math.MaxInt, 2000, full(api.TON, false, true, true, 1005)}, {full(api.TON, false, true, true, 32000), true, 40000, 1000, full(api.TON, true, true, true, 32767)},
		{full(api.TON, false, true, true, 5), true, 9, -4, full(api.TON, false, true, true, 5)}, {full(api.TON, false, true, true, 5), true, -4, 1, full(api.TON, true, true, true, 0)},
		{full(api.TON, false, true, true, math.MaxInt), true, 9, 1, full(api.TON, false, true, true, math.MinInt)}, {full(api.TON, true, false, false, 7), false, 9, 1, full(api.TON, false, false, false, 0)},
		{full(api.TOF, true, true, true, 5), false, 9, 1, full(api.TOF, true, false, true, 6)}, {full(api.TOF, false, true, true, 5), false, 9, 1, full(api.TOF, false, false, true, 5)}, {full(api.TOF, true, false, false, 5), false, 5, 5000, full(api.TOF, false, false, false, 5)},
		{full(api.TP, true, false, false, 5), false, 9, 1, full(api.TP, false, false, false, 5)}, {full(api.TP, false, false, true, 5), false, 6, 1, full(api.TP, false, false, false, 6)}, {full(api.TP, false, true, false, 5), true, 9, 1, full(api.TP, false, true, false, 5)}, {full(api.TP, false, false, true, 5), true, 9, 1, full(api.TP, true, true, true, 6)},
		{full(api.CTU, false, false, true, 32767), true, 9, 0, full(api.CTU, true, true, true, 32767)}, {full(api.CTU, false, false, false, math.MaxInt), true, 9, 0, full(api.CTU, false, true, false, math.MinInt)}, {full(api.CTU, true, true, false, 3), true, 9, 0, full(api.CTU, false, true, false, 3)}, {full(api.CTU, false, false, false, 40000), true, 9, 0, full(api.CTU, true, true, false, 32767)},
		{full(api.CTD, false, false, true, 0), true, 9, 0, full(api.CTD, true, true, true, 0)}, {full(api.CTD, true, false, true, -5), false, 9, 0, full(api.CTD, false, false, true, -5)}, {full(api.CTD, false, false, true, -5), true, 9, 0, full(api.CTD, true, true, true, 0)}, {full(api.CTD, false, false, true, math.MinInt), true, 9, 0, full(api.CTD, false, true, true, math.MaxInt)}, {full(api.CTD, false, true, false, 8), true, 70000, 0, full(api.CTD, false, true, true, 32767)},
		{full(api.RTrig, true, true, true, 8), true, 1, 1, full(api.RTrig, false, true, true, 8)}, {full(api.FTrig, true, true, true, 8), false, 1, 1, full(api.FTrig, true, false, true, 8)},
		{full(0, true, true, true, 8), false, 1, 1, full(0, true, true, true, 8)}, {full(8, false, false, false, 8), true, 1, 1, full(8, false, false, false, 8)}, {full(-1, false, true, true, 8), false, 1, 1, full(-1, false, true, true, 8)},
	} {
		if got := Step(c.b, c.in, c.pt, c.dt); got != c.want {
			t.Errorf("P10.1: the %d-th: %v, want %v", i, got, c.want)
		}
	}
	for kind := -1; kind < 10; kind++ {
		if New(kind) != (api.Block{Kind: kind}) {
			t.Errorf("P10.1: New(%d)", kind)
		}
	}
}
