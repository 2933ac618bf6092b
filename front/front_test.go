package front

import (
	"bytes"
	"math"
	"slices"
	"strings"
	"testing"

	"trivium/api"
)

func rowsOf(n int) []string {
	l := make([]string, n)
	for i := range l {
		l[i] = "k" + string([]byte{byte(i >> 8), byte(i)}) + strings.Repeat("z", i%7)
	}
	return l
}

func lists() [][]string {
	full := strings.Repeat("x", api.MaxString-1)
	return [][]string{
		nil, {}, {"a"}, {"ab", "ac"}, {"a", "aa", "aaa", "aaaa", "aaaaa", "aaaaaa"}, {"a", "b", "c", "d", "e", "f", "g", "h", "i"},
		{"\x00", "\x00\x00", "\x01", "a\xff", "\x80", "\xff", "\xff\xff"}, {"A", "a", "é", "\xff"},
		{full, full + "x", full + "y"}, rowsOf(7), rowsOf(api.MaxStrings),
		{"ab", "abc", "abd", "abda", "abdab", "abdb", "b"},
	}
}

// P6.1
func TestNewRefuses(t *testing.T) {
	for _, l := range [][]string{
		{""}, {"", "a"}, {"a", ""}, {"a", "a"}, {"b", "a"}, {"a", "b", "b"}, {"a", "A"}, {"é", "z"}, {"ab", "a"},
		{strings.Repeat("x", api.MaxString+1)}, {"a", strings.Repeat("x", 1<<16)}, rowsOf(api.MaxStrings + 1), make([]string, 1<<16+1),
	} {
		if d, no := New(l); d != nil || no != api.ErrArg {
			t.Errorf("%.50q %v", l, no)
		}
	}
	for _, l := range lists() {
		if d, no := New(l); d == nil || no != api.OK || d.Len() != len(l) {
			t.Errorf("%.50q %v", l, no)
		}
	}
}

// P6.1, P6.3
func TestLocateAndExtract(t *testing.T) {
	for _, l := range lists() {
		d, _ := New(l)
		for i, s := range l {
			if d.Locate(s) != i+1 || d.Extract(i+1) != s || d.Locate(d.Extract(i+1)) != i+1 {
				t.Errorf("%q %d", s, d.Locate(s))
			}
		}
		for _, s := range []string{"", "a\x00", "aab\x00", "zzz", "\xff\xff\xff", "\x00\x00\x00", strings.Repeat("x", 1<<16)} {
			if d.Locate(s) != 0 {
				t.Errorf("%.50q", s)
			}
		}
		for _, id := range []int{math.MinInt, -1, 0, len(l) + 1, math.MaxInt} {
			if d.Extract(id) != "" {
				t.Error(id)
			}
		}
	}
}

// P6.1
func TestPrefix(t *testing.T) {
	for _, l := range lists() {
		d, _ := New(l)
		asked := []string{"", "a", "ab", "abd", "abda", "abdz", "b", "k", "k\x00", "k\x01", "k\x00\x05z", "z", "\xff", "\x00", "x", "c", "ac", "é", "\xc3", strings.Repeat("x", 400)}
		for _, p := range append(asked, l...) {
			first, last := 0, 0
			for i, s := range l {
				if strings.HasPrefix(s, p) {
					last = i + 1
					if first == 0 {
						first = i + 1
					}
				}
			}
			if a, b := d.Prefix(p); a != first || b != last {
				t.Errorf("%.50q %q: %d %d", l, p, a, b)
			}
		}
	}
}

// P6.2
func TestBytes(t *testing.T) {
	full := strings.Repeat("x", api.MaxString-1)
	for _, x := range []struct {
		l    []string
		want string
	}{
		{nil, "\x00\x00"},
		{[]string{"ab", "ac"}, "\x00\x02\x00\x02ab\x01\x01c"},
		{[]string{"a", "aa", "aaa", "aaaa", "aaaaa", "aaaaaa"}, "\x00\x06\x00\x01a\x01\x01a\x02\x01a\x03\x01a\x00\x05aaaaa\x05\x01a"},
		{[]string{"aa", "ab", "ac", "ad", "ae", "af", "ag", "ah", "ai", "aj"},
			"\x00\x0a\x00\x02aa\x01\x01b\x01\x01c\x01\x01d\x00\x02ae\x01\x01f\x01\x01g\x01\x01h\x00\x02ai\x01\x01j"},
		{[]string{"\xc3\xa8", "\xc3\xa9"}, "\x00\x02\x00\x02\xc3\xa8\x01\x01\xa9"},
		{[]string{full, full + "x"}, "\x00\x02\x00\xf9" + full + "\xf9\x01x"},
	} {
		d, _ := New(x.l)
		if string(d.Bytes()) != x.want {
			t.Errorf("%q: %x", x.l, d.Bytes())
		}
	}
	d, _ := New(rowsOf(api.MaxStrings))
	if b := d.Bytes(); b[0] != 1 || b[1] != 44 {
		t.Error(b[:2])
	}
}

// P6.2
func TestRead(t *testing.T) {
	for _, l := range lists() {
		d, _ := New(l)
		b := d.Bytes()
		back, no := Read(b)
		if no != api.OK || back.Len() != len(l) || !slices.Equal(back.texts, l) {
			t.Fatalf("%q %v", l, no)
		}
		for i := range b {
			if got, no := Read(b[:i]); got != nil || no != api.ErrForm {
				t.Fatalf("%q cut at %d", l, i)
			}
		}
		if got, no := Read(append(slices.Clone(b), 0)); got != nil || no != api.ErrForm {
			t.Errorf("%q and more", l)
		}
	}
}

// P6.2: whatever is read is refused, or is written just so again.
func TestReadOfOthers(t *testing.T) {
	d, _ := New([]string{"ab", "abc", "abd", "abda", "abdab", "b"})
	b := d.Bytes()
	for i := range b {
		for c := range 256 {
			other := slices.Clone(b)
			other[i] = byte(c)
			got, no := Read(other)
			if no == api.OK && !bytes.Equal(got.Bytes(), other) || no != api.OK && (got != nil || no != api.ErrForm) {
				t.Errorf("%x %v", other, no)
			}
		}
	}
	for _, s := range []string{
		"", "\x00", "\x00\x01", "\x01\x2d", "\xff\xff", "\x00\x01\x00\x00", "\x00\x01\x01\x01a", "\x00\x02\x00\x02ab\x00\x02ac",
		"\x00\x02\x00\x02ab\x01\x01b", "\x00\x02\x00\x02ab\x01\x01a", "\x00\x02\x00\x02ab\x02\x00", "\x00\x02\x00\x02ab\x03\x01c", "\x00\x02\x00\x02ab\x00\x01a",
		"\x00\x05\x00\x02aa\x01\x01b\x01\x01c\x01\x01d\x01\x01e", "\x00\x01\x00\xfb" + strings.Repeat("x", 251), "\x00\x02\x00\xfa" + strings.Repeat("x", 250) + "\xfa\x01x",
		"\x00\x00\x00", "\x00\x00\x00\x01a",
	} {
		if got, no := Read([]byte(s)); got != nil || no != api.ErrForm {
			t.Errorf("%x %v", s, no)
		}
	}
	if got, no := Read(nil); got != nil || no != api.ErrForm {
		t.Error("nil", no)
	}
}

// P6.3
func TestNothingShared(t *testing.T) {
	l := []string{"ab", "ac", "0"}
	d, _ := New(l[:2])
	if !slices.Equal(l, []string{"ab", "ac", "0"}) {
		t.Error("changed")
	}
	l[0] = "zz"
	b := d.Bytes()
	b[4] = 'x'
	if d.Extract(1) != "ab" || d.Bytes()[4] != 'a' {
		t.Error("kept")
	}
	room := append(d.Bytes(), 9)
	back, _ := Read(room[:len(room)-1])
	clear(room[:4])
	room[4] = 'y'
	if back.Extract(1) != "ab" || room[len(room)-1] != 9 {
		t.Error("kept or changed")
	}
}

// P6.3
func TestNil(t *testing.T) {
	var d *Dict
	for _, s := range []string{"", "a"} {
		if a, b := d.Prefix(s); a != 0 || b != 0 || d.Locate(s) != 0 {
			t.Error(s)
		}
	}
	if d.Len() != 0 || d.Extract(0) != "" || d.Extract(1) != "" || d.Bytes() != nil {
		t.Error("nil")
	}
	zero := &Dict{}
	if zero.Len() != 0 || zero.Locate("a") != 0 || zero.Extract(1) != "" {
		t.Error("zero")
	}
}
