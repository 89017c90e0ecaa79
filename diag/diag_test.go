package diag

import (
	"errors"
	"fmt"
	"math"
	"slices"
	"strings"
	"testing"

	"governor/api"
)

// loud is an error all of whose methods panic.
type loud struct{}

func (loud) Error() string { panic("loud") }
func (loud) As(any) bool   { panic("loud") }

// listed is an error that can't be compared.
type listed []int

func (listed) Error() string { return "listed" }

func TestTexts(t *testing.T) {
	var none *Error
	for _, c := range []struct {
		err  error
		want string
	}{
		{New(0, 0), "code 0 at 0"},
		{New(-2, -30), "code -2 at -30"},
		{New(math.MinInt, math.MaxInt), "code -9223372036854775808 at 9223372036854775807"},
		{Of(7), "code 7 at -1"},
		{Wrap(New(3, 7), 5, 9), "code 5 at 9: code 3 at 7"},
		{Wrap(Wrap(New(1, 2), 3, 4), 5, 6), "code 5 at 6: code 3 at 4: code 1 at 2"},
		{Wrap(errors.New("x"), 5, 9), "code 5 at 9: x"},
		{Wrap(fmt.Errorf("y: %w", New(1, 2)), 5, 9), "code 5 at 9: y: code 1 at 2"},
		{Wrap(none, 5, 9), "code 5 at 9: fine"},
		{Wrap(listed{1}, 5, 9), "code 5 at 9: listed"},
		{none, "fine"},
	} {
		if got := c.err.Error(); got != c.want {
			t.Errorf("P1.1: %q, want %q", got, c.want)
		}
	}
}

func TestWrapAndUnwrap(t *testing.T) {
	inner := New(3, 7)
	outer := Wrap(inner, 5, 9)
	if errors.Unwrap(outer) != inner || errors.Unwrap(inner) != nil || Wrap(nil, 5, 9) != nil {
		t.Error("P1.1: Wrap, Unwrap")
	}
	var e *Error
	if !errors.As(outer, &e) || e.Code != 5 || e.At != 9 || e.Err != inner {
		t.Errorf("P1.1: fields: %v", e)
	}
	var none *Error
	if none.Unwrap() != nil || none.Is(Of(0)) || none.Is(none) {
		t.Error("R3: a nil *Error")
	}
}

func TestIs(t *testing.T) {
	inner := New(3, 7)
	outer := fmt.Errorf("more: %w", Wrap(inner, 5, 9))
	var none *Error
	for _, c := range []struct {
		err, target error
		want        bool
	}{
		{inner, Of(3), true}, {outer, Of(3), true}, {outer, Of(5), true}, {outer, Of(4), false},
		{New(3, -1), Of(3), true}, {inner, New(3, 8), false}, {inner, New(3, -1), true},
		{inner, inner, true}, {inner, New(3, 7), false},
		{inner, fmt.Errorf("w: %w", Of(3)), false}, {inner, Wrap(Of(3), 3, -1), false},
		{Of(3), Of(4), false}, {Of(3), Of(3), true}, {errors.New("x"), Of(0), false},
		{inner, none, false}, {New(0, 0), none, false}, {inner, listed{1}, false}, {inner, loud{}, false},
		{errors.Join(errors.New("x"), outer), Of(3), true},
	} {
		if got := errors.Is(c.err, c.target); got != c.want {
			t.Errorf("P1.1: Is(%#v, %#v): %v", c.err, c.target, got)
		}
	}
}

func TestFindAndChain(t *testing.T) {
	var none *Error
	b := Wrap(fmt.Errorf("between: %w", New(3, 7)), 5, 9)
	for i, c := range []struct {
		err  error
		want []api.Wrong
	}{
		{nil, nil}, {errors.New("x"), nil}, {none, nil}, {fmt.Errorf("w: %w", none), nil}, {loud{}, nil},
		{New(3, 7), []api.Wrong{{Code: 3, At: 7}}},
		{Of(6), []api.Wrong{{Code: 6, At: -1}}},
		{b, []api.Wrong{{Code: 5, At: 9}, {Code: 3, At: 7}}},
		{fmt.Errorf("more: %w", b), []api.Wrong{{Code: 5, At: 9}, {Code: 3, At: 7}}},
		{Wrap(errors.New("x"), 2, 4), []api.Wrong{{Code: 2, At: 4}}},
		{Wrap(none, 2, 4), []api.Wrong{{Code: 2, At: 4}}},
		{Wrap(loud{}, 2, 4), []api.Wrong{{Code: 2, At: 4}}},
		{errors.Join(errors.New("x"), New(1, 2), New(3, 4)), []api.Wrong{{Code: 1, At: 2}}},
	} {
		code, at, ok := Find(c.err)
		first := api.Wrong{}
		if len(c.want) > 0 {
			first = c.want[0]
		}
		if ok != (len(c.want) > 0) || code != first.Code || at != first.At {
			t.Errorf("P1.2: Find, the %d-th: %d, %d, %v", i, code, at, ok)
		}
		if got := Chain(c.err); !slices.Equal(got, c.want) {
			t.Errorf("P1.2: Chain, the %d-th: %v", i, got)
		}
	}
}

func TestLongChains(t *testing.T) {
	for _, n := range []int{99, 100, 101} {
		err := New(0, 0)
		for i := 1; i < n; i++ {
			err = Wrap(err, i, i)
		}
		if got := Chain(err); len(got) != min(n, 100) || got[0].Code != n-1 {
			t.Errorf("P1.2: of %d: %d", n, len(got))
		}
	}
	err := New(0, 0)
	for range 100000 {
		err = Wrap(err, 1, 1)
	}
	if got := err.Error(); strings.Count(got, ": ") != 100000 {
		t.Error("P1.1: a long text")
	}
	if got := Wrap(loud{}, 1, 2).Error(); !strings.HasPrefix(got, "code 1 at 2: ") {
		t.Errorf("R1: %q", got)
	}
}
