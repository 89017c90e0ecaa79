package word

import (
	"math"
	"math/big"
	"testing"

	"governor/api"
)

// edges are numbers at and around the limits of 16, 32 and 64 bits.
var edges = []int{0, 1, -1, 2, -2, 3, 7, -7, 100, 32766, 32767, 32768, -32767, -32768, -32769, 65535, 65536, 65537,
	math.MaxInt32, math.MinInt32, math.MaxInt, math.MinInt, math.MaxInt - 1, math.MinInt + 1, 1 << 40, -1 << 40}

// fits is Fit, reckoned another way.
func fits(n *big.Int) int {
	m := new(big.Int).And(n, big.NewInt(0xffff)).Int64()
	if m > api.Highest {
		m -= 1 << 16
	}
	return int(m)
}

func TestFitNegNot(t *testing.T) {
	for _, n := range edges {
		if got := Fit(n); got != fits(big.NewInt(int64(n))) {
			t.Errorf("P2.1: Fit(%d): %d", n, got)
		}
		if got := Neg(n); got != fits(new(big.Int).Neg(big.NewInt(int64(n)))) {
			t.Errorf("P2.1: Neg(%d): %d", n, got)
		}
		if got := Not(n); (got == 1) != (n == 0) || got != 0 && got != 1 {
			t.Errorf("P2.1: Not(%d): %d", n, got)
		}
	}
	if Neg(-32768) != -32768 || Fit(32768) != -32768 || Fit(65536) != 0 {
		t.Error("P2.1: edges")
	}
}

func number(so bool) *big.Int {
	if so {
		return big.NewInt(1)
	}
	return big.NewInt(0)
}

// exact is what Do answers, reckoned with numbers of any length.
func exact(op int, a *big.Int, b *big.Int) *big.Int {
	sa, sb, c := a.Sign() != 0, b.Sign() != 0, a.Cmp(b)
	z := new(big.Int)
	switch op {
	case api.Add:
		return z.Add(a, b)
	case api.Sub:
		return z.Sub(a, b)
	case api.Mul:
		return z.Mul(a, b)
	case api.Div:
		return z.Quo(a, b)
	case api.Mod:
		return z.Rem(a, b)
	case api.And:
		return number(sa && sb)
	case api.Or:
		return number(sa || sb)
	case api.Xor:
		return number(sa != sb)
	}
	return number([]bool{c == 0, c != 0, c < 0, c <= 0, c > 0, c >= 0}[op-api.Eq])
}

func TestDo(t *testing.T) {
	for op := api.Add; op <= api.Xor; op++ {
		for _, a := range edges {
			for _, b := range edges {
				got, ok := Do(op, a, b)
				if b == 0 && (op == api.Div || op == api.Mod) {
					if ok || got != 0 {
						t.Errorf("P2.1: Do(%d, %d, 0): %d, %v", op, a, got, ok)
					}
					continue
				}
				want := fits(exact(op, big.NewInt(int64(a)), big.NewInt(int64(b))))
				if !ok || got != want {
					t.Errorf("P2.1: Do(%d, %d, %d): %d, %v, want %d", op, a, b, got, ok, want)
				}
			}
		}
	}
}

func TestNoOperator(t *testing.T) {
	for _, op := range []int{0, -1, 15, 16, math.MaxInt, math.MinInt} {
		if got, ok := Do(op, 3, 2); got != 0 || ok {
			t.Errorf("P2.1: Do(%d): %d, %v", op, got, ok)
		}
	}
}

func TestSigns(t *testing.T) {
	for _, c := range [][4]int{{api.Div, -7, 2, -3}, {api.Div, 7, -2, -3}, {api.Mod, -7, 2, -1}, {api.Mod, 7, -2, 1},
		{api.Div, -32768, -1, -32768}, {api.Add, 32767, 1, -32768}, {api.Mul, 256, 256, 0}, {api.Sub, -32768, 1, 32767}} {
		if got, ok := Do(c[0], c[1], c[2]); !ok || got != c[3] {
			t.Errorf("P2.1: %v: %d", c, got)
		}
	}
}
