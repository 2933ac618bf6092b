package bits

import (
	"math"
	"testing"

	"trivium/api"
)

// pattern is n bits without a short rule, the same in every run.
func pattern(n int, seed uint32, thin uint32) []bool {
	l := make([]bool, n)
	for i := range l {
		seed = seed*1664525 + 1013904223
		l[i] = seed>>16%thin == 0
	}
	return l
}

func rows() [][]bool {
	l := [][]bool{nil, {}, {false}, {true}, {false, true, false, true}}
	for _, n := range []int{63, 64, 65, 127, 128, 129, 1000, api.MaxBits - 1, api.MaxBits} {
		full := make([]bool, n)
		for i := range full {
			full[i] = true
		}
		l = append(l, make([]bool, n), full, pattern(n, 7, 2), pattern(n, 9, 50))
	}
	return l
}

// P1.1
func TestLenAndGet(t *testing.T) {
	for _, l := range rows() {
		v := New(l)
		if v == nil || v.Len() != len(l) {
			t.Fatal(len(l), v.Len())
		}
		for i, one := range l {
			if v.Get(i) != one {
				t.Fatal(len(l), i)
			}
		}
		for _, i := range []int{-1, math.MinInt, len(l), len(l) + 1, len(l) + 64, math.MaxInt} {
			if v.Get(i) {
				t.Error(len(l), i)
			}
		}
	}
}

// P1.1
func TestTooMany(t *testing.T) {
	if New(make([]bool, api.MaxBits+1)) != nil || New(make([]bool, 5*api.MaxBits)) != nil {
		t.Error("more than MaxBits")
	}
	if New(make([]bool, api.MaxBits)) == nil {
		t.Error("just MaxBits")
	}
}

// P1.2, P1.3
func TestRankSelectNext(t *testing.T) {
	for _, l := range rows() {
		v := New(l)
		var ones []int
		for i, one := range l {
			if v.Rank(i) != len(ones) {
				t.Fatal("rank", len(l), i, v.Rank(i))
			}
			if one {
				ones = append(ones, i)
			}
		}
		for k, place := range ones {
			if v.Select(k) != place || v.Rank(v.Select(k)) != k {
				t.Fatal("select", len(l), k, v.Select(k))
			}
		}
		next := -1
		for i := len(l) - 1; i >= 0; i-- {
			if l[i] {
				next = i
			}
			if v.Next(i) != next {
				t.Fatal("next", len(l), i, v.Next(i))
			}
		}
		beyond(t, v, len(l), len(ones), next)
	}
}

func beyond(t *testing.T, v *Vec, size, ones, first int) {
	for _, i := range []int{-1, -64, math.MinInt} {
		if v.Rank(i) != 0 || v.Select(i) != -1 || v.Next(i) != first {
			t.Error("below", size, i, v.Rank(i), v.Select(i), v.Next(i))
		}
	}
	for _, i := range []int{size, size + 1, size + 64, math.MaxInt} {
		if v.Rank(i) != ones || v.Next(i) != -1 || v.Select(i) != -1 {
			t.Error("above", size, i, v.Rank(i), v.Select(i), v.Next(i))
		}
	}
	if v.Select(ones) != -1 {
		t.Error("behind the last", size, v.Select(ones))
	}
}

// P1.3
func TestNotKept(t *testing.T) {
	room := []bool{false, true, false, true, true, false}
	v := New(room[:4])
	for i, want := range []bool{false, true, false, true, true, false} {
		if room[i] != want {
			t.Error("changed", i)
		}
		room[i] = !room[i]
	}
	if v.Rank(9) != 2 || v.Select(1) != 3 || v.Next(0) != 1 || v.Len() != 4 {
		t.Error("kept")
	}
}

// P1.3
func TestNilAndZero(t *testing.T) {
	var none *Vec
	for _, v := range []*Vec{none, {}} {
		for _, i := range []int{math.MinInt, -1, 0, 1, math.MaxInt} {
			if v.Len() != 0 || v.Get(i) || v.Rank(i) != 0 || v.Select(i) != -1 || v.Next(i) != -1 {
				t.Error(i)
			}
		}
	}
}
