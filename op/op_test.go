package op

import (
	"math"
	"strings"
	"testing"

	"governor/api"
)

func TestOperands(t *testing.T) {
	want := map[int]int{}
	for _, k := range []int{api.OpGet, api.OpPut, api.OpGetG, api.OpPutG, api.OpGetF, api.OpPutF, api.OpRange, api.OpCallV, api.OpCallI, api.OpCast, api.OpTry} {
		want[k] = 2
	}
	for _, k := range []int{api.OpNull, api.OpNeg, api.OpNot, api.OpRet, api.OpRetV, api.OpPop} {
		want[k] = 0
	}
	for k := -2; k < 40; k++ {
		n, ok := want[k]
		switch {
		case k < 1 || k > 35:
			n = -1
		case !ok:
			n = 1
		}
		if got := Operands(k); got != n {
			t.Errorf("P14.1: Operands(%d): %d, want %d", k, got, n)
		}
	}
	if Operands(math.MinInt) != -1 || Operands(math.MaxInt) != -1 {
		t.Error("P14.1: Operands")
	}
}

// limits are what the operands of an instruction may be.
func limits(k int) (a [2]int, b [2]int) {
	a, b = [2]int{0, 10000}, [2]int{0, 10000}
	switch Operands(k) {
	case 0:
		a = [2]int{}
		fallthrough
	case 1:
		b = [2]int{}
	}
	switch k {
	case api.OpPush:
		a = [2]int{-32768, 32767}
	case api.OpBin:
		a = [2]int{1, 14}
	case api.OpSame, api.OpCast, api.OpTry:
		a = [2]int{0, 1}
	case api.OpTick:
		a[0] = 1
	case api.OpGet, api.OpPut, api.OpGetG, api.OpPutG, api.OpGetF, api.OpPutF:
		b[0] = 1
	}
	return a, b
}

func TestMay(t *testing.T) {
	numbers := []int{math.MinInt, -32769, -32768, -1, 0, 1, 2, 13, 14, 15, 9999, 10000, 10001, 32767, 32768, math.MaxInt}
	for k := -1; k < 38; k++ {
		a, b := limits(k)
		for _, x := range numbers {
			for _, y := range numbers {
				want := k > 0 && k < 36 && a[0] <= x && x <= a[1] && b[0] <= y && y <= b[1]
				if k == api.OpRange {
					want = -32768 <= x && x <= y && y <= 32767
				}
				if got := May(api.Op{K: k, A: x, B: y}); got != want {
					t.Errorf("P14.1: May(%d, %d, %d): %v", k, x, y, got)
				}
			}
		}
	}
}

func TestSigs(t *testing.T) {
	for _, params := range []string{"", "i", "r", "ir", "rri", "iii"} {
		for _, ret := range []bool{false, true} {
			sig := Sig(params, ret)
			want := params + ">"
			if ret {
				want += "i"
			}
			p, r, ok := Parts(sig)
			if sig != want || p != params || r != ret || !ok {
				t.Errorf("P14.2: Sig(%q, %v): %q: %q, %v, %v", params, ret, sig, p, r, ok)
			}
		}
	}
	if Sig("x>y", true) != "x>y>i" || Sig("iiii", false) != "iiii>" {
		t.Error("P14.2: Sig of any text")
	}
	for _, sig := range []string{"", "i", "ir", ">r", ">ii", ">i ", "iiii>", "x>", "I>", "i>>", "i>i>", ">>i", " >", "i>x", "iiii>i", strings.Repeat("r", 100) + ">"} {
		if p, r, ok := Parts(sig); p != "" || r || ok {
			t.Errorf("P14.2: Parts(%q): %q, %v, %v", sig, p, r, ok)
		}
	}
}

func TestFrame(t *testing.T) {
	for _, c := range []struct {
		code api.Code
		want int
	}{{api.Code{}, 0}, {api.Code{Params: "ir", Locals: "iii", Stack: 4}, 9}, {api.Code{Stack: -3}, -3}, {api.Code{Params: "i", Stack: math.MaxInt}, math.MinInt}} {
		if got := Frame(c.code); got != c.want {
			t.Errorf("P14.2: Frame(%v): %d", c.code, got)
		}
	}
}
