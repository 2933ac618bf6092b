package term

import (
	"math"
	"strings"
	"testing"

	"trivium/api"
)

const x = "http://www.w3.org/2001/XMLSchema#"

// P4.1
func TestIsIRI(t *testing.T) {
	for r := rune(0); r < 0x180; r++ {
		want := r >= 0x21 && r <= 0x7e || r >= 0xa0
		switch r {
		case 0x22, 0x3c, 0x3e, 0x5c, 0x5e, 0x60, 0x7b, 0x7c, 0x7d:
			want = false
		}
		if IsIRI(string(r)) != want || IsIRI("a"+string(r)+"b") != want {
			t.Errorf("%x", r)
		}
	}
	for s, want := range map[string]bool{
		"": false, "a": true, "http://a.b/c?d#e": true, "\U0010ffff": true, "\ufffd": true, "\ue000": true, "\u00a0": true,
		"\xff": false, "a\xc3": false, "\xed\xa0\x80": false, "\xf4\x90\x80\x80": false, "\xc0\x80": false, "a\xffb": false,
		strings.Repeat("a", api.MaxExtra): true, strings.Repeat("a", api.MaxExtra+1): false,
		strings.Repeat("é", api.MaxExtra/2): true, strings.Repeat("é", api.MaxExtra/2) + "a": false,
		strings.Repeat("a", 1<<16): false,
	} {
		if IsIRI(s) != want {
			t.Errorf("%q", s)
		}
	}
}

func long(n int) string { return strings.Repeat("a", n) }

func mayBe() []api.Term {
	return []api.Term{
		{Kind: api.IRI, Text: "a"}, {Kind: api.IRI, Text: "é"}, {Kind: api.IRI, Text: long(60)}, {Kind: api.IRI, Text: "~"},
		{Kind: api.Blank, Text: "a"}, {Kind: api.Blank, Text: "09AZaz"}, {Kind: api.Blank, Text: "01234567"},
		{Kind: api.Plain}, {Kind: api.Plain, Text: long(30)}, {Kind: api.Plain, Text: "\x00\"\\\n\r\t\b\f\x7f\u0080'<>"},
		{Kind: api.Plain, Text: strings.Repeat("é", 15)}, {Kind: api.Plain, Text: "a@en"}, {Kind: api.Plain, Text: "\ufffd"},
		{Kind: api.Lang, Extra: "a"}, {Kind: api.Lang, Text: long(30), Extra: "abcdefgh"}, {Kind: api.Lang, Text: "a", Extra: "en"},
		{Kind: api.Lang, Text: "a", Extra: "en-0"}, {Kind: api.Lang, Text: "a", Extra: "a-b-c-9-z9"},
		{Kind: api.Lang, Text: "a", Extra: "abcdefgh-1234567"}, {Kind: api.Lang, Text: "a", Extra: "abcdefg-12345678"},
		{Kind: api.Typed, Extra: "a"}, {Kind: api.Typed, Text: long(30), Extra: long(60)}, {Kind: api.Typed, Text: "1", Extra: x + "integer"},
		{Kind: api.Typed, Text: "a", Extra: "en"},
	}
}

func mayNotBe() []api.Term {
	return []api.Term{
		{}, {Kind: 0, Text: "a"}, {Kind: 6, Text: "a"}, {Kind: -1, Text: "a"}, {Kind: math.MaxInt, Text: "a"}, {Kind: math.MinInt},
		{Kind: api.IRI}, {Kind: api.IRI, Text: long(61)}, {Kind: api.IRI, Text: "a b"}, {Kind: api.IRI, Text: "a", Extra: "b"}, {Kind: api.IRI, Text: "\xff"},
		{Kind: api.Blank}, {Kind: api.Blank, Text: long(9)}, {Kind: api.Blank, Text: "a_"}, {Kind: api.Blank, Text: "é"}, {Kind: api.Blank, Text: "a", Extra: "a"},
		{Kind: api.Blank, Text: "a-b"}, {Kind: api.Blank, Text: "@"}, {Kind: api.Blank, Text: "["}, {Kind: api.Blank, Text: "/"}, {Kind: api.Blank, Text: ":"},
		{Kind: api.Plain, Text: long(31)}, {Kind: api.Plain, Text: "\xff"}, {Kind: api.Plain, Text: "a", Extra: "en"}, {Kind: api.Plain, Text: strings.Repeat("é", 15) + "a"},
		{Kind: api.Lang, Text: "a"}, {Kind: api.Lang, Text: long(31), Extra: "en"}, {Kind: api.Lang, Text: "\xff", Extra: "en"},
		{Kind: api.Lang, Text: "a", Extra: "EN"}, {Kind: api.Lang, Text: "a", Extra: "e1"}, {Kind: api.Lang, Text: "a", Extra: "1"}, {Kind: api.Lang, Text: "a", Extra: "-"},
		{Kind: api.Lang, Text: "a", Extra: "en-"}, {Kind: api.Lang, Text: "a", Extra: "-en"}, {Kind: api.Lang, Text: "a", Extra: "en--us"}, {Kind: api.Lang, Text: "a", Extra: "abcdefghi"},
		{Kind: api.Lang, Text: "a", Extra: "en-123456789"}, {Kind: api.Lang, Text: "a", Extra: "abcdefgh-12345678"}, {Kind: api.Lang, Text: "a", Extra: "en_us"},
		{Kind: api.Lang, Text: "a", Extra: "é"}, {Kind: api.Lang, Text: "a", Extra: "en-A"}, {Kind: api.Lang, Text: "a", Extra: strings.Repeat("a-", 1<<15)},
		{Kind: api.Typed, Text: "a"}, {Kind: api.Typed, Text: long(31), Extra: "a"}, {Kind: api.Typed, Text: "a", Extra: long(61)},
		{Kind: api.Typed, Text: "a", Extra: "a b"}, {Kind: api.Typed, Text: "\xc3", Extra: "a"}, {Kind: api.Typed, Text: "a", Extra: "\xff"},
	}
}

// P4.1
func TestIs(t *testing.T) {
	for _, a := range mayBe() {
		if !Is(a) {
			t.Errorf("%+v", a)
		}
	}
	for _, a := range mayNotBe() {
		if Is(a) {
			t.Errorf("%+v", a)
		}
	}
}

// P4.2
func TestShow(t *testing.T) {
	for a, want := range map[api.Term]string{
		{Kind: api.Lang, Text: "a\n", Extra: "en"}:              `"a\n"@en`,
		{Kind: api.IRI, Text: "http://a"}:                       `<http://a>`,
		{Kind: api.Blank, Text: "b1"}:                           `_:b1`,
		{Kind: api.Plain}:                                       `""`,
		{Kind: api.Plain, Text: "\"\\\n\r\t\b\f"}:               `"\"\\\n\r\t\b\f"`,
		{Kind: api.Plain, Text: "\x00\x07\x0b\x0e\x1a\x1f\x7f"}: `"\u0000\u0007\u000B\u000E\u001A\u001F\u007F"`,
		{Kind: api.Plain, Text: " !'/~\u0080é\u2028\U0001f600"}: "\" !'/~\u0080é\u2028\U0001f600\"",
		{Kind: api.Typed, Text: "1", Extra: "http://t"}:         `"1"^^<http://t>`,
		{Kind: api.Typed, Text: "\"", Extra: "é"}:               `"\""^^<é>`,
		{Kind: api.Lang, Text: "", Extra: "en-us"}:              `""@en-us`,
		{Kind: api.Plain, Text: strings.Repeat("\x01", 5)}:      `"` + strings.Repeat(`\u0001`, 5) + `"`,
		{Kind: api.Typed, Text: "a", Extra: x + "string"}:       `"a"^^<http://www.w3.org/2001/XMLSchema#string>`,
	} {
		if Show(a) != want {
			t.Errorf("%+v: %s", a, Show(a))
		}
	}
	for _, a := range mayNotBe() {
		Show(a)
	}
}

// P4.2: the order is that of the texts, not that of kinds.
func TestCmp(t *testing.T) {
	rising := []api.Term{
		{Kind: api.Plain, Text: " "}, {Kind: api.Plain}, {Kind: api.Lang, Extra: "en"}, {Kind: api.Typed, Extra: "a"},
		{Kind: api.Plain, Text: "A"}, {Kind: api.Plain, Text: "\x00"}, {Kind: api.Plain, Text: "a b"}, {Kind: api.Plain, Text: "a"},
		{Kind: api.Plain, Text: "é"}, {Kind: api.IRI, Text: "A"}, {Kind: api.IRI, Text: "a/b"}, {Kind: api.IRI, Text: "a"},
		{Kind: api.IRI, Text: "aa"}, {Kind: api.IRI, Text: "é"}, {Kind: api.Blank, Text: "A"}, {Kind: api.Blank, Text: "a"}, {Kind: api.Blank, Text: "a0"},
	}
	for i, a := range rising {
		for j, b := range rising {
			want := 0
			if i < j {
				want = -1
			} else if i > j {
				want = 1
			}
			if Cmp(a, b) != want {
				t.Errorf("%s %s: %d", Show(a), Show(b), Cmp(a, b))
			}
		}
	}
}

// P4.2
func TestNumber(t *testing.T) {
	for _, name := range []string{"double", "decimal", "integer"} {
		for s, want := range map[string]float64{"1": 1, "-1.5e2": -150, "INF": math.Inf(1), "1.": 1} {
			if n, ok := Number(api.Term{Kind: api.Typed, Text: s, Extra: x + name}); !ok || n != want {
				t.Error(name, s, n, ok)
			}
		}
		if n, ok := Number(api.Term{Kind: api.Typed, Text: "NaN", Extra: x + name}); !ok || !math.IsNaN(n) {
			t.Error(name, n, ok)
		}
		if n, ok := Number(api.Term{Kind: api.Typed, Text: "-0", Extra: x + name}); !ok || !math.Signbit(n) {
			t.Error(name, n, ok)
		}
	}
	for _, a := range []api.Term{
		{Kind: api.Plain, Text: "1"}, {Kind: api.Plain, Text: "1", Extra: x + "double"}, {Kind: api.Lang, Text: "1", Extra: x + "integer"},
		{Kind: api.IRI, Text: "1", Extra: x + "integer"}, {Kind: 9, Text: "1", Extra: x + "integer"}, {Text: "1", Extra: x + "integer"},
		{Kind: api.Typed, Text: "1", Extra: "integer"}, {Kind: api.Typed, Text: "1", Extra: x}, {Kind: api.Typed, Text: "1", Extra: x + "float"},
		{Kind: api.Typed, Text: "1", Extra: x + "Integer"}, {Kind: api.Typed, Text: "1", Extra: x + "int"}, {Kind: api.Typed, Text: "1", Extra: x + "integers"},
		{Kind: api.Typed, Text: "", Extra: x + "integer"}, {Kind: api.Typed, Text: "a", Extra: x + "double"}, {Kind: api.Typed, Text: "1 ", Extra: x + "double"},
		{Kind: api.Typed, Text: "1e23", Extra: x + "double"}, {Kind: api.Typed, Text: "1"},
	} {
		if n, ok := Number(a); ok || n != 0 {
			t.Errorf("%+v %v %v", a, n, ok)
		}
	}
}

// P4.3
func TestShowTellsApart(t *testing.T) {
	l := append(mayBe(), api.Term{Kind: api.Plain, Text: "a\"@en"}, api.Term{Kind: api.Plain, Text: "<a>"}, api.Term{Kind: api.Plain, Text: `\n`},
		api.Term{Kind: api.Plain, Text: "\n"}, api.Term{Kind: api.Plain, Text: `\u0000`}, api.Term{Kind: api.Plain, Text: "\x00"})
	for _, a := range l {
		for _, b := range l {
			if !Is(a) || !Is(b) || (a == b) != (Show(a) == Show(b)) || (a == b) != (Cmp(a, b) == 0) {
				t.Errorf("%+v %+v", a, b)
			}
		}
	}
}
