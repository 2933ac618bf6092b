package pack

import (
	"bytes"
	"math"
	"slices"
	"testing"

	"trivium/api"
)

// P2.1
func TestWidth(t *testing.T) {
	for n, want := range map[int]int{
		0: 0, -1: 0, math.MinInt: 0, 1: 1, 2: 2, 3: 2, 4: 3, 7: 3, 8: 4, 255: 8, 256: 9,
		1<<20 - 1: 20, 1 << 20: 21, math.MaxInt: 63,
	} {
		if Width(n) != want {
			t.Error(n, Width(n))
		}
	}
}

// P2.1, P2.2
func TestBytes(t *testing.T) {
	for _, x := range []struct {
		l     []int
		width int
		b     []byte
	}{
		{[]int{1, 2, 3}, 3, []byte{0xd1, 0x00}},
		{nil, 0, nil}, {nil, 20, nil},
		{[]int{0, 0, 0}, 0, nil},
		{[]int{1}, 1, []byte{1}},
		{[]int{1, 0, 1, 1, 0, 0, 0, 1}, 1, []byte{0x8d}},
		{[]int{1, 0, 1, 1, 0, 0, 0, 1, 1}, 1, []byte{0x8d, 0x01}},
		{[]int{0xab, 0xcd}, 8, []byte{0xab, 0xcd}},
		{[]int{0x12345}, 20, []byte{0x45, 0x23, 0x01}},
		{[]int{0x12345, 0xfffff}, 20, []byte{0x45, 0x23, 0xf1, 0xff, 0xff}},
	} {
		b, no := Pack(x.l, x.width)
		if no != api.OK || !bytes.Equal(b, x.b) {
			t.Errorf("%v %d: %x %v", x.l, x.width, b, no)
		}
		l, no := Unpack(x.b, len(x.l), x.width)
		if no != api.OK || !slices.Equal(l, x.l) {
			t.Errorf("%x: %v %v", x.b, l, no)
		}
	}
}

// P2.1
func TestPackRefuses(t *testing.T) {
	for _, x := range []struct {
		l     []int
		width int
	}{
		{nil, -1}, {nil, api.MaxWidth + 1}, {nil, math.MinInt}, {nil, math.MaxInt},
		{[]int{1}, 0}, {[]int{-1}, 20}, {[]int{math.MinInt}, 20}, {[]int{0, 8}, 3},
		{[]int{1 << 20}, 20}, {[]int{1 << 40}, 20}, {[]int{math.MaxInt}, 20},
		{make([]int, api.MaxInts+1), 0}, {make([]int, api.MaxInts+1), 5},
	} {
		if b, no := Pack(x.l, x.width); b != nil || no != api.ErrArg {
			t.Error(len(x.l), x.width, b, no)
		}
	}
	for width, n := range map[int]int{0: 0, 1: 1, 3: 7, api.MaxWidth: 1<<20 - 1} {
		if _, no := Pack([]int{n}, width); no != api.OK {
			t.Error(width, n, no)
		}
	}
}

// P2.2
func TestUnpackRefuses(t *testing.T) {
	for _, x := range []struct {
		b        []byte
		n, width int
		want     api.Errno
	}{
		{nil, -1, 3, api.ErrArg}, {nil, math.MinInt, 0, api.ErrArg}, {nil, api.MaxInts + 1, 0, api.ErrArg},
		{nil, math.MaxInt, 20, api.ErrArg}, {nil, 0, -1, api.ErrArg}, {nil, 0, api.MaxWidth + 1, api.ErrArg},
		{[]byte{1, 2, 3}, -1, 99, api.ErrArg}, {nil, math.MaxInt, math.MaxInt, api.ErrArg},
		{nil, 1, 1, api.ErrForm}, {[]byte{0}, 0, 5, api.ErrForm}, {[]byte{0}, 5, 0, api.ErrForm},
		{[]byte{0xd1}, 3, 3, api.ErrForm}, {[]byte{0xd1, 0, 0}, 3, 3, api.ErrForm},
		{[]byte{0xd1, 2}, 3, 3, api.ErrForm}, {[]byte{0xd1, 0x80}, 3, 3, api.ErrForm}, {[]byte{2}, 1, 1, api.ErrForm},
	} {
		if l, no := Unpack(x.b, x.n, x.width); l != nil || no != x.want {
			t.Error(x, l, no)
		}
	}
}

// P2.3
func TestThereAndBack(t *testing.T) {
	seed := uint32(3)
	for width := range api.MaxWidth + 1 {
		for _, n := range []int{0, 1, 2, 3, 7, 8, 9, 100, api.MaxInts} {
			l := make([]int, n)
			for i := range l {
				seed = seed*1664525 + 1013904223
				l[i] = int(seed>>8) & (1<<width - 1)
			}
			b, no := Pack(l, width)
			if no != api.OK || len(b) != (n*width+7)/8 {
				t.Fatal(n, width, len(b), no)
			}
			back, no := Unpack(b, n, width)
			if no != api.OK || !slices.Equal(l, back) {
				t.Fatal(n, width, no)
			}
		}
	}
}

// P2.3
func TestNotKept(t *testing.T) {
	l := []int{1, 2, 3, 99}
	b, _ := Pack(l[:3], 3)
	l[0] = 7
	if !bytes.Equal(b, []byte{0xd1, 0}) || !slices.Equal(l, []int{7, 2, 3, 99}) {
		t.Error(b, l)
	}
	room := []byte{0xd1, 0, 5}
	back, _ := Unpack(room[:2], 3, 3)
	room[0] = 0
	if !slices.Equal(back, []int{1, 2, 3}) || !bytes.Equal(room, []byte{0, 0, 5}) {
		t.Error(back, room)
	}
	back[0] = 5
	if again, _ := Unpack([]byte{0xd1, 0}, 3, 3); !slices.Equal(again, []int{1, 2, 3}) {
		t.Error(again)
	}
}
