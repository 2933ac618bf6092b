package wave

import (
	"math"
	"slices"
	"testing"

	"trivium/api"
)

func row(n, width int, seed uint32) []int {
	l := make([]int, n)
	for i := range l {
		seed = seed*1664525 + 1013904223
		l[i] = int(seed>>8) & (1<<width - 1)
	}
	return l
}

type asked struct {
	l     []int
	width int
}

func rows() []asked {
	return []asked{
		{nil, 0}, {nil, 20}, {[]int{0, 0, 0}, 0}, {[]int{3, 7, 5}, 3}, {[]int{3, 7, 5}, 20}, {[]int{0, 1, 1, 0, 1}, 1}, {[]int{7, 7, 7, 7}, 3},
		{row(40, 2, 1), 2}, {row(65, 4, 2), 5}, {row(30, 20, 3), 20}, {[]int{1<<20 - 1, 0, 1 << 19}, 20},
	}
}

func count(l []int, has func(n int) bool) int {
	k := 0
	for _, n := range l {
		if has(n) {
			k++
		}
	}
	return k
}

func held(l []int, from, to int) []int {
	to = max(0, min(to, len(l)))
	return l[max(0, min(from, to)):to]
}

// P7.1
func TestNewRefuses(t *testing.T) {
	for _, x := range []asked{
		{nil, -1}, {nil, api.MaxWidth + 1}, {nil, math.MaxInt}, {nil, math.MinInt}, {[]int{-1}, 3}, {[]int{8}, 3}, {[]int{1}, 0}, {[]int{1 << 20}, 20},
		{[]int{math.MaxInt}, 20}, {[]int{math.MinInt}, 20}, {make([]int, api.MaxInts+1), 3},
	} {
		if w, no := New(x.l, x.width); w != nil || no != api.ErrArg {
			t.Error(len(x.l), x.width, no)
		}
	}
	if w, no := New(row(api.MaxInts, api.MaxWidth, 4), api.MaxWidth); no != api.OK || w.Len() != api.MaxInts {
		t.Error(no)
	}
}

// P7.1
func TestAccessRankSelect(t *testing.T) {
	for _, x := range rows() {
		w, no := New(x.l, x.width)
		if no != api.OK || w.Len() != len(x.l) {
			t.Fatal(x, no)
		}
		for _, i := range []int{math.MinInt, -1, len(x.l), len(x.l) + 1, math.MaxInt} {
			if w.Access(i) != -1 {
				t.Error(x, i)
			}
		}
		for i, n := range x.l {
			if w.Access(i) != n {
				t.Error(x, i, w.Access(i))
			}
		}
		for _, v := range append([]int{math.MinInt, -1, 0, 1, 2, 6, 1 << x.width, 1<<x.width + 3, 1 << 20, math.MaxInt}, x.l...) {
			is := func(n int) bool { return n == v }
			for _, i := range []int{math.MinInt, -1, 0, 1, 2, 7, len(x.l) - 1, len(x.l), len(x.l) + 1, math.MaxInt} {
				if w.Rank(v, i) != count(held(x.l, 0, i), is) {
					t.Error(x, v, i, w.Rank(v, i))
				}
			}
			k := 0
			for i, n := range x.l {
				if n == v {
					if w.Select(v, k) != i {
						t.Error(x, v, k, w.Select(v, k))
					}
					k++
				}
			}
			for _, k := range []int{math.MinInt, -1, k, k + 1, math.MaxInt} {
				if w.Select(v, k) != -1 {
					t.Error(x, v, k, w.Select(v, k))
				}
			}
		}
	}
}

// P7.2
func TestRanges(t *testing.T) {
	places := []int{math.MinInt, -1, 0, 1, 2, 3, 5, 29, 30, 40, 41, 65, math.MaxInt}
	for _, x := range rows() {
		w, _ := New(x.l, x.width)
		numbers := []int{math.MinInt, -1, 0, 1, 2, 3, 4, 5, 7, 8, 1<<x.width - 1, 1 << x.width, 1<<20 - 1, 1 << 20, math.MaxInt - 1, math.MaxInt}
		for _, from := range places {
			for _, to := range places {
				l := slices.Clone(held(x.l, from, to))
				slices.Sort(l)
				if got := w.Distinct(from, to); !slices.Equal(got, slices.Compact(slices.Clone(l))) {
					t.Error(x, from, to, got)
				}
				for _, v := range numbers {
					want := -1
					if i, _ := slices.BinarySearch(l, v); i < len(l) {
						want = l[i]
					}
					if got := w.Next(from, to, v); got != want {
						t.Error(x, from, to, v, got, want)
					}
					for _, hi := range numbers {
						want := count(l, func(n int) bool { return n >= v && n <= hi })
						if got := w.Count(from, to, v, hi); got != want {
							t.Error(x, from, to, v, hi, got, want)
						}
					}
				}
			}
		}
	}
	w, _ := New([]int{3, 7, 5}, 3)
	if w.Next(0, 3, 4) != 5 {
		t.Error("example")
	}
}

// P7.3
func TestNothingShared(t *testing.T) {
	l := []int{3, 7, 5, 1}
	w, _ := New(l[:3], 3)
	if !slices.Equal(l, []int{3, 7, 5, 1}) {
		t.Error("changed", l)
	}
	l[0] = 0
	got := w.Distinct(0, 3)
	clear(got[:cap(got)])
	if w.Access(0) != 3 || !slices.Equal(w.Distinct(0, 3), []int{3, 5, 7}) {
		t.Error("kept")
	}
}

// P7.3
func TestNil(t *testing.T) {
	var none *Wave
	for _, w := range []*Wave{none, {}} {
		for _, n := range []int{math.MinInt, -1, 0, 1, math.MaxInt} {
			if w.Len() != 0 || w.Rank(n, n) != 0 || w.Rank(0, n) != 0 || w.Count(0, n, 0, n) != 0 || w.Count(n, n, n, n) != 0 {
				t.Error(n)
			}
			if w.Access(n) != -1 || w.Select(n, n) != -1 || w.Select(0, n) != -1 || w.Next(0, n, n) != -1 || w.Next(n, n, 0) != -1 || len(w.Distinct(0, n)) != 0 {
				t.Error(n)
			}
		}
	}
}
