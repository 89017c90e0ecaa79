package due

import (
	"math"
	"slices"
	"testing"

	"governor/api"
)

func TestDue(t *testing.T) {
	for _, c := range []struct {
		every, before, after int
		want                 bool
	}{{5, 4, 5, true}, {5, 5, 9, false}, {5, 0, 4, false}, {5, 0, 5, true}, {5, 5, 10, true}, {5, 1, 100, true}, {1, 0, 0, false}, {1, 0, 1, true}, {1, 7, 7, false}, {5, 5, 5, false},
		{0, 0, 9, false}, {-1, 0, 9, false}, {5, -1, 9, false}, {5, -6, -1, false}, {5, 9, 4, false}, {math.MaxInt, 0, math.MaxInt, true}, {math.MaxInt, 0, math.MaxInt - 1, false}, {2, math.MaxInt - 1, math.MaxInt, false}, {1, math.MaxInt - 1, math.MaxInt, true}, {math.MinInt, 0, 1, false}} {
		if got := Due(c.every, c.before, c.after); got != c.want {
			t.Errorf("P12.1: Due(%d, %d, %d): %v", c.every, c.before, c.after, got)
		}
	}
	for every := 1; every < 8; every++ {
		for before := range 20 {
			for after := before; after < 20; after++ {
				want := false
				for at := before + 1; at <= after; at++ {
					want = want || at%every == 0
				}
				if Due(every, before, after) != want {
					t.Errorf("P12.1: Due(%d, %d, %d)", every, before, after)
				}
			}
		}
	}
}

func TestWhich(t *testing.T) {
	jobs := []api.Job{{Every: 2, First: 3}, {Every: 3, First: 1}, {Every: 1, First: 3}, {Every: 0, First: 0}, {Every: 1, First: 1}, {Every: 4, First: -2}, {Every: 1, First: 3}}
	before := slices.Clone(jobs)
	for _, c := range []struct {
		before, after int
		want          []int
	}{{0, 1, []int{4, 2, 6}}, {0, 12, []int{5, 1, 4, 0, 2, 6}}, {1, 2, []int{4, 0, 2, 6}}, {2, 3, []int{1, 4, 2, 6}}, {3, 3, nil}, {4, 3, nil}, {-1, 3, nil}} {
		if got := Which(jobs, c.before, c.after); !slices.Equal(got, c.want) {
			t.Errorf("P12.1: Which(%d, %d): %v", c.before, c.after, got)
		}
	}
	if !slices.Equal(jobs, before) || Which(nil, 0, 9) != nil {
		t.Error("P12.1: Which")
	}
	var many []api.Job
	for i := range 1000 {
		many = append(many, api.Job{Every: 1, First: i % 3})
	}
	got := Which(many, 0, 1)
	if !slices.IsSortedFunc(got, func(a int, b int) int { return (a%3-b%3)*10000 + a - b }) || len(got) != 1000 {
		t.Error("P12.1: the order of the like")
	}
}

func TestClip(t *testing.T) {
	for ticks, want := range map[int]int{-1: 0, 0: 0, 1: 1, 999: 999, 1000: 1000, 1001: 1000, math.MaxInt: 1000, math.MinInt: 0} {
		if got := Clip(ticks); got != want {
			t.Errorf("P12.1: Clip(%d): %d", ticks, got)
		}
	}
}
