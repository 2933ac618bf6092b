package ring

import (
	"math"
	"slices"
	"testing"

	"trivium/api"
)

// some is about n triples of numbers up to top, rising.
func some(n, top int, seed uint32) []api.IDs {
	next := func() int {
		seed = seed*1664525 + 1013904223
		return int(seed>>8)%top + 1
	}
	l := make([]api.IDs, n)
	for i := range l {
		l[i] = api.IDs{next(), next(), next()}
	}
	slices.SortFunc(l, compare)
	return slices.Compact(l)
}

func sets() [][]api.IDs {
	return [][]api.IDs{
		nil, {{1, 1, 1}}, {{1, 5, 7}, {3, 5, 7}}, {{1000, 1000, 1000}}, {{1, 1, 1000}, {1, 1000, 1}, {1000, 1, 1}},
		some(20, 3, 1), some(100, 4, 2), some(100, 9, 3), some(100, 1000, 4), some(60, 40, 5),
	}
}

// asked is patterns that match and such as do not.
func asked(l []api.IDs) []api.IDs {
	asked := []api.IDs{{}, {0, 0, 7}, {9, 9, 9}, {-1, 0, 0}, {0, math.MinInt, 0}, {0, 0, math.MaxInt}, {math.MinInt, math.MinInt, math.MinInt}, {1001, 0, 0}, {0, 1024, 1}, {1, 0, -1}}
	for _, t := range l {
		for told := range 8 {
			p, q := t, t
			for col := range columns {
				if told>>col&1 == 0 {
					p[col] = 0
					q[col] = 0
				}
			}
			q[len(asked)%columns]++
			asked = append(asked, p, q)
		}
	}
	slices.SortFunc(asked, compare)
	return slices.Compact(asked)
}

func matching(l []api.IDs, p api.IDs) []api.IDs {
	var m []api.IDs
	for _, t := range l {
		if (p[0] == 0 || p[0] == t[0]) && (p[1] == 0 || p[1] == t[1]) && (p[2] == 0 || p[2] == t[2]) {
			m = append(m, t)
		}
	}
	return m
}

// P8.1
func TestNewRefuses(t *testing.T) {
	full := make([]api.IDs, api.MaxTriples+1)
	for i := range full {
		full[i] = api.IDs{i + 1, 1, 1}
	}
	if r, no := New(full); r != nil || no != api.ErrArg {
		t.Error("too many", no)
	}
	if r, no := New(full[:api.MaxTriples]); no != api.OK || r.Len() != api.MaxTriples {
		t.Error("just as many", no)
	}
	for _, l := range [][]api.IDs{
		{{0, 1, 1}}, {{1, 0, 1}}, {{1, 1, 0}}, {{-1, 1, 1}}, {{1001, 1, 1}}, {{1, 1001, 1}}, {{1, 1, 1001}}, {{1, 1, math.MaxInt}}, {{1, math.MinInt, 1}}, {{}},
		{{1, 1, 1}, {1, 1, 1}}, {{2, 1, 1}, {1, 1, 1}}, {{1, 2, 1}, {1, 1, 1}}, {{1, 1, 2}, {1, 1, 1}}, {{1, 2, 1}, {1, 1, 9}}, {{1, 1, 1}, {2, 1, 1}, {2, 1, 1}},
		{{1, 1, 1}, {1, 1, 0}}, make([]api.IDs, 1<<16),
	} {
		if r, no := New(l); r != nil || no != api.ErrArg {
			t.Error(l, no)
		}
	}
}

// P8.1
func TestCountAndAll(t *testing.T) {
	for _, l := range sets() {
		r, no := New(l)
		if no != api.OK || r.Len() != len(l) {
			t.Fatal(l, no)
		}
		for _, p := range asked(l) {
			want := matching(l, p)
			if r.Count(p) != len(want) || !slices.Equal(r.All(p), want) {
				t.Fatal(l, p, r.Count(p), r.All(p))
			}
		}
	}
}

// P8.2
func TestNext(t *testing.T) {
	for _, l := range sets() {
		r, _ := New(l)
		for _, p := range asked(l) {
			m := matching(l, p)
			for col := range columns {
				for _, v := range []int{math.MinInt, -1, 0, 1, 2, 3, 4, 5, 9, 10, 39, 40, 500, 999, 1000, 1001, 1023, 1024, math.MaxInt} {
					want := 0
					for _, t := range m {
						if t[col] >= v && (want == 0 || t[col] < want) {
							want = t[col]
						}
					}
					if got := r.Next(p, col, v); got != want {
						t.Fatal(l, p, col, v, got, want)
					}
				}
			}
			for _, col := range []int{math.MinInt, -1, 3, 4, math.MaxInt} {
				if r.Next(p, col, 0) != 0 {
					t.Error(p, col)
				}
			}
		}
	}
	r, _ := New([]api.IDs{{1, 5, 7}, {3, 5, 7}})
	if r.Next(api.IDs{0, 0, 7}, 0, 2) != 3 {
		t.Error("example")
	}
}

// P8.3
func TestNothingShared(t *testing.T) {
	l := []api.IDs{{1, 5, 7}, {3, 5, 7}, {2, 2, 2}}
	r, _ := New(l[:2])
	if !slices.Equal(l, []api.IDs{{1, 5, 7}, {3, 5, 7}, {2, 2, 2}}) {
		t.Error("changed")
	}
	clear(l)
	got := r.All(api.IDs{})
	clear(got[:cap(got)])
	if !slices.Equal(r.All(api.IDs{}), []api.IDs{{1, 5, 7}, {3, 5, 7}}) {
		t.Error("kept")
	}
}

// P8.3
func TestNil(t *testing.T) {
	var none *Ring
	for _, r := range []*Ring{none, {}} {
		for _, p := range []api.IDs{{}, {1, 1, 1}, {0, 1, 0}, {0, -1, 0}} {
			if r.Len() != 0 || r.Count(p) != 0 || r.Next(p, 0, 0) != 0 || r.Next(p, 1, 1) != 0 || r.Next(p, 2, -1) != 0 || len(r.All(p)) != 0 {
				t.Error(p)
			}
		}
	}
}
