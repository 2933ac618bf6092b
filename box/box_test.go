package box

import (
	"bytes"
	"math"
	"slices"
	"testing"

	"trivium/api"
	"trivium/crc"
)

func sections(ids ...int) []api.Section {
	l := make([]api.Section, len(ids))
	for i, id := range ids {
		l[i] = api.Section{ID: id, Body: bytes.Repeat([]byte{byte(id)}, 3*i)}
	}
	return l
}

func same(a, b []api.Section) bool {
	return slices.EqualFunc(a, b, func(a, b api.Section) bool { return a.ID == b.ID && bytes.Equal(a.Body, b.Body) })
}

// sum is the Sum of rows as three bytes.
func sum(l ...[]byte) []byte {
	n := crc.Sum(l...)
	return []byte{byte(n >> 16), byte(n >> 8), byte(n)}
}

// sealed is a file whose sums are right, whatever else is in it.
func sealed(head []byte, bodies string) []byte {
	return slices.Concat(head, sum(head), []byte(bodies))
}

// entry is what a section's ID, its told size and its body's Sum are in a file.
func entry(id, size byte, body string) []byte {
	return slices.Concat([]byte{id, 0, 0, size}, sum([]byte(body)))
}

// P10.1
func TestPack(t *testing.T) {
	none := []byte{0x54, 0x52, 0x49, 0x56, 1, 0}
	if b, no := Pack(nil); no != api.OK || !bytes.Equal(b, sealed(none, "")) {
		t.Errorf("%x %v", b, no)
	}
	if b, no := Pack([]api.Section{}); no != api.OK || len(b) != 9 {
		t.Errorf("%x %v", b, no)
	}
	two := slices.Concat([]byte("TRIV\x01\x02"), entry(1, 3, "abc"), entry(255, 0, ""))
	if b, no := Pack([]api.Section{{ID: 1, Body: []byte("abc")}, {ID: 255}}); no != api.OK || !bytes.Equal(b, sealed(two, "abc")) {
		t.Errorf("%x %v", b, no)
	}
	long := bytes.Repeat([]byte{7}, 0x10203)
	b, no := Pack([]api.Section{{ID: 9, Body: long}, {ID: 10, Body: []byte{1}}})
	if no != api.OK || !bytes.Equal(b[7:10], []byte{1, 2, 3}) || !bytes.Equal(b[10:13], sum(long)) || len(b) != 9+14+len(long)+1 || b[len(b)-1] != 1 {
		t.Error(len(b), no)
	}
}

// P10.1
func TestPackRefuses(t *testing.T) {
	full := make([]byte, api.MaxFile)
	for _, l := range [][]api.Section{
		sections(1, 2, 3, 4, 5, 6, 7, 8, 9), sections(0), sections(256), sections(-1), sections(math.MaxInt), sections(math.MinInt), sections(257, 258),
		sections(1, 1), sections(2, 1), sections(1, 3, 3), sections(1, 3, 2), sections(5, 256), make([]api.Section, 1<<16),
		{{ID: 1, Body: full[:api.MaxFile-15]}}, {{ID: 1, Body: full}}, {{ID: 1, Body: full[:api.MaxFile-23]}, {ID: 2, Body: full[:1]}},
	} {
		if b, no := Pack(l); b != nil || no != api.ErrArg {
			t.Error(len(l), len(b), no)
		}
	}
	for _, l := range [][]api.Section{
		sections(1, 2, 3, 4, 5, 6, 7, 8), sections(255), sections(1, 255), {{ID: 1, Body: full[:api.MaxFile-16]}},
		{{ID: 1, Body: full[:api.MaxFile-24]}, {ID: 2, Body: full[:1]}},
	} {
		if b, no := Pack(l); no != api.OK || len(b) > api.MaxFile {
			t.Error(len(l), len(b), no)
		}
	}
}

// P10.2
func TestUnpackRefuses(t *testing.T) {
	good, _ := Pack(sections(1, 2, 7))
	for i := range good {
		if l, no := Unpack(good[:i]); l != nil || no != api.ErrForm {
			t.Error("cut at", i)
		}
		for c := 1; c < 256; c++ {
			other := slices.Clone(good)
			other[i] ^= byte(c)
			if l, no := Unpack(other); l != nil || no != api.ErrForm {
				t.Error("changed at", i, c)
			}
		}
	}
	for _, b := range [][]byte{
		nil, []byte("TRIV\x01"), []byte("TRIV\x01\x00"), append(slices.Clone(good), 0),
		sealed([]byte("TRIV\x02\x00"), ""), sealed([]byte("trIV\x01\x00"), ""), sealed([]byte("TRIV\x01\x00"), "a"), sealed([]byte("TRIV\x01\x01"), ""),
		sealed(slices.Concat([]byte("TRIV\x01\x01"), entry(0, 1, "a")), "a"),
		sealed(slices.Concat([]byte("TRIV\x01\x01"), entry(1, 1, "b")), "a"),
		sealed(slices.Concat([]byte("TRIV\x01\x01"), entry(1, 2, "a")), "a"),
		sealed(slices.Concat([]byte("TRIV\x01\x01"), entry(1, 0, "")), "a"),
		sealed(slices.Concat([]byte("TRIV\x01\x02"), entry(1, 1, "a"), entry(1, 1, "a")), "aa"),
		sealed(slices.Concat([]byte("TRIV\x01\x02"), entry(2, 1, "a"), entry(1, 1, "a")), "aa"),
		sealed(slices.Concat([]byte("TRIV\x01\x02"), entry(1, 1, "a")), "a"),
		sealed(slices.Concat([]byte("TRIV\x01\x09"), bytes.Repeat(entry(1, 0, ""), 9)), ""),
		sealed(slices.Concat([]byte("TRIV\x01\x01"), []byte{1, 0xff, 0xff, 0xff, 0, 0, 0}), "a"),
		make([]byte, 1<<20),
	} {
		if l, no := Unpack(b); l != nil || no != api.ErrForm {
			t.Errorf("%.40x %v", b, no)
		}
	}
	huge := make([]byte, api.MaxFile)
	long := sealed(slices.Concat([]byte("TRIV\x01\x01"), []byte{1, 1, 0x86, 0xa0}, sum(huge)), string(huge))
	if l, no := Unpack(long); l != nil || no != api.ErrForm {
		t.Error("more than MaxFile", no)
	}
}

// P10.3
func TestUnpackOfPack(t *testing.T) {
	for _, l := range [][]api.Section{nil, sections(1), sections(255), sections(1, 2), sections(1, 2, 3, 4, 5, 6, 7, 8), sections(3, 100, 200),
		{{ID: 4, Body: make([]byte, api.MaxFile-16)}}} {
		b, _ := Pack(l)
		if got, no := Unpack(b); no != api.OK || !same(got, l) {
			t.Error(l, got, no)
		}
	}
	plain := sealed(slices.Concat([]byte("TRIV\x01\x02"), entry(1, 1, "a"), entry(9, 2, "bc")), "abc")
	if got, no := Unpack(plain); no != api.OK || !same(got, []api.Section{{ID: 1, Body: []byte("a")}, {ID: 9, Body: []byte("bc")}}) {
		t.Error(got, no)
	}
}

// P10.3
func TestNothingShared(t *testing.T) {
	room := []byte("abcdef")
	l := []api.Section{{ID: 1, Body: room[:2]}, {ID: 2, Body: room[:3]}, {ID: 3}}
	b, _ := Pack(l[:2])
	if string(room) != "abcdef" || !same(l, []api.Section{{ID: 1, Body: []byte("ab")}, {ID: 2, Body: []byte("abc")}, {ID: 3}}) {
		t.Error("changed")
	}
	clear(room)
	file := append(b, 'x')
	got, no := Unpack(file[:len(b)])
	if no != api.OK || string(got[0].Body) != "ab" || string(got[1].Body) != "abc" || file[len(b)] != 'x' {
		t.Error("kept", got, no)
	}
	clear(file)
	clear(got[0].Body[:cap(got[0].Body)])
	if string(got[1].Body) != "abc" {
		t.Error("shared", got)
	}
}
