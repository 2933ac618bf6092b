package crc

import (
	"bytes"
	"strings"
	"testing"
)

// P9.1
func TestSum(t *testing.T) {
	for s, want := range map[string]int{
		"123456789": 0x21cf02,
		"":          0xb704ce,
		// The register is 24 ones and noughts, so a row that equals it leaves nothing.
		"\xb7\x04\xce":     0,
		"\xb7\x04\xce\x00": 0,
		"\xb7\x04\xce\x01": 0x864cfb,
		"\xb7\x04\xce\x02": 0x8ad50d,
	} {
		if Sum([]byte(s)) != want {
			t.Errorf("%q: %x", s, Sum([]byte(s)))
		}
	}
	if Sum() != 0xb704ce || Sum(nil) != 0xb704ce || Sum(nil, []byte{}, nil) != 0xb704ce {
		t.Error("no bytes")
	}
	if n := Sum(bytes.Repeat([]byte{0xff}, 1<<16)); n < 0 || n >= 1<<24 {
		t.Errorf("%x", n)
	}
}

// P9.2
func TestParts(t *testing.T) {
	b := []byte(strings.Repeat("a\x00\xffz", 5))
	want := Sum(b)
	for i := range b {
		for j := i; j <= len(b); j++ {
			if Sum(b[:i], b[i:j], nil, b[j:]) != want {
				t.Error(i, j)
			}
		}
	}
}

// P9.2
func TestOneByte(t *testing.T) {
	b := []byte("a row of bytes\x00\xff")
	want := Sum(b)
	for i := range b {
		for c := 1; c < 256; c++ {
			b[i] ^= byte(c)
			if Sum(b) == want {
				t.Error(i, c)
			}
			b[i] ^= byte(c)
		}
	}
	if string(b) != "a row of bytes\x00\xff" || Sum(b) != want {
		t.Error("changed")
	}
}
