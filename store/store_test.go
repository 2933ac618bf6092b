package store

import (
	"bytes"
	"math"
	"slices"
	"strconv"
	"strings"
	"testing"

	"trivium/api"
	"trivium/box"
	"trivium/front"
	"trivium/lines"
	"trivium/pack"
	"trivium/ring"
	"trivium/term"
)

func iri(s string) api.Term   { return api.Term{Kind: api.IRI, Text: s} }
func plain(s string) api.Term { return api.Term{Kind: api.Plain, Text: s} }

func load(t *testing.T, s string) *Store {
	t.Helper()
	made, _, no := Load(s)
	if no != api.OK {
		t.Fatal(s, no)
	}
	return made
}

// full is a text of as many triples as may be, whose terms are all different and as long as may be.
func full(t *testing.T) *Store {
	t.Helper()
	var l []api.Triple
	for i := range api.MaxTriples {
		n := strconv.Itoa(1000 + i)
		l = append(l, api.Triple{
			S: iri("s" + n), P: iri("p" + n),
			O: api.Term{Kind: api.Typed, Text: strings.Repeat("\x01", 26) + n, Extra: strings.Repeat("x", 60)},
		})
	}
	made, no := build(lines.Sort(l))
	if no != api.OK {
		t.Fatal(no)
	}
	return made
}

func texts() []string {
	return []string{
		"", "<a><b><c>.", "<a><b><a>.\n<b><a><b>.", "<a><a><a>.",
		"_:x<p>\"a\\n\"@en.\n_:x<p>\"a\\u000a\"@EN.\n<q><p>\"1\"^^<t>.\n#\n<q> <p> \"\" .\n<p><p>_:x.",
		"<a><b>\"\\u0000\\\"\\\\é\".\n<é><b>\"\u2028\".",
	}
}

// P11.1
func TestLoad(t *testing.T) {
	for _, s := range texts() {
		l, line, _ := lines.Parse(s)
		made, n, no := Load(s)
		if no != api.OK || n != line || made.Len() != len(l) || !slices.Equal(made.Triples(), l) || made.Export() != lines.Print(l) {
			t.Errorf("%q %d %v", s, n, no)
		}
	}
	for s, want := range map[string]struct {
		line int
		no   api.Errno
	}{
		"x": {1, api.ErrForm}, "<a><b><c>.\n<a><b>.\n": {2, api.ErrForm}, strings.Repeat("\n", 201): {201, api.ErrFull},
		strings.Repeat(" ", api.MaxDoc+1): {0, api.ErrLong}, "\xff": {1, api.ErrForm},
	} {
		if made, n, no := Load(s); made != nil || n != want.line || no != want.no {
			t.Errorf("%.20q %d %v", s, n, no)
		}
	}
	if made, n, no := Load(""); made == nil || made.Len() != 0 || n != 0 || no != api.OK {
		t.Error("nothing")
	}
}

// P11.1
func TestTerms(t *testing.T) {
	for _, s := range texts() {
		made := load(t, s)
		terms := made.Terms()
		for i, a := range terms {
			if i > 0 && term.Cmp(terms[i-1], a) >= 0 {
				t.Error("order", terms)
			}
			got, ok := made.Term(i + 1)
			if made.ID(a) != i+1 || got != a || !ok {
				t.Error(a, made.ID(a), got)
			}
		}
		stand := map[api.Term]int{}
		for _, x := range made.Triples() {
			stand[x.S], stand[x.P], stand[x.O] = 1, 1, 1
		}
		if len(stand) != len(terms) {
			t.Error(s, terms)
		}
		for _, id := range []int{math.MinInt, -1, 0, len(terms) + 1, math.MaxInt} {
			if a, ok := made.Term(id); ok || a != (api.Term{}) {
				t.Error(id, a)
			}
		}
	}
	made := load(t, "<a><b>\"c\".")
	for _, a := range []api.Term{
		{}, iri("c"), plain("a"), iri("A"), iri("zz"), {Kind: api.IRI, Text: "a", Extra: "x"}, {Kind: api.Lang, Text: "c", Extra: "en"},
		{Kind: api.IRI, Text: "a>"}, {Kind: 9, Text: "a"}, {Kind: api.Plain, Text: "c", Extra: "en"}, {Kind: api.Blank, Text: "a"}, iri(strings.Repeat("a", 1<<16)),
	} {
		if made.ID(a) != 0 {
			t.Errorf("%+v", a)
		}
	}
	if made.ID(plain("c")) != 1 || made.ID(iri("a")) != 2 || made.ID(iri("b")) != 3 {
		t.Error("numbers", made.Terms())
	}
}

// P11.1
func TestRing(t *testing.T) {
	for _, s := range texts() {
		made := load(t, s)
		var want []api.IDs
		for _, x := range made.Triples() {
			want = append(want, api.IDs{made.ID(x.S), made.ID(x.P), made.ID(x.O)})
		}
		if got := made.Ring().All(api.IDs{}); !slices.Equal(got, want) || made.Ring().Len() != made.Len() {
			t.Error(s, got, want)
		}
	}
}

// file is a box of shown terms and of numbers, as Encode would write them.
func file(t *testing.T, shown []string, n int, numbers []int, width int) []byte {
	t.Helper()
	dict, no := front.New(shown)
	if no != api.OK {
		t.Fatal(shown)
	}
	packed, no := pack.Pack(numbers, width)
	if no != api.OK {
		t.Fatal(numbers)
	}
	return sections(t, dict.Bytes(), append([]byte{byte(n >> 8), byte(n)}, packed...))
}

func sections(t *testing.T, bodies ...[]byte) []byte {
	t.Helper()
	var l []api.Section
	for i, body := range bodies {
		l = append(l, api.Section{ID: i + 1, Body: body})
	}
	b, no := box.Pack(l)
	if no != api.OK {
		t.Fatal(no)
	}
	return b
}

// P11.2
func TestEncode(t *testing.T) {
	for _, x := range []struct {
		s       string
		shown   []string
		n       int
		numbers []int
		width   int
	}{
		{"", nil, 0, nil, 0},
		{"<a><a><a>.", []string{"<a>"}, 1, []int{1, 1, 1}, 1},
		{"<b><a><c>.\n<a><b>\"c\\n\".\n<a><b>\"c\\n\".\n<a><b><b>.", []string{`"c\n"`, "<a>", "<b>", "<c>"}, 3, []int{2, 3, 1, 2, 3, 3, 3, 2, 4}, 3},
		{"_:b<a>_:b.\n_:b<a>\"\"@en.", []string{`""@en`, "<a>", "_:b"}, 2, []int{3, 2, 1, 3, 2, 3}, 2},
	} {
		if got := load(t, x.s).Encode(); !bytes.Equal(got, file(t, x.shown, x.n, x.numbers, x.width)) {
			t.Errorf("%q: %x", x.s, got)
		}
	}
}

// P11.3, P11.4
func TestDecode(t *testing.T) {
	stores := []*Store{full(t)}
	for _, s := range texts() {
		stores = append(stores, load(t, s))
	}
	for _, s := range stores {
		b := s.Encode()
		got, no := Decode(b)
		if no != api.OK || !slices.Equal(got.Triples(), s.Triples()) || !slices.Equal(got.Terms(), s.Terms()) || got.Export() != s.Export() {
			t.Fatal(s.Export(), no)
		}
		if !bytes.Equal(got.Encode(), b) || !slices.Equal(got.Ring().All(api.IDs{}), s.Ring().All(api.IDs{})) {
			t.Error(s.Export())
		}
	}
	if b := full(t).Encode(); b == nil || full(t).Len() != api.MaxTriples || len(full(t).Terms()) != api.MaxStrings {
		t.Error("full", len(b))
	}
}

// P11.3
func TestDecodeRefuses(t *testing.T) {
	abc := []string{"<a>", "<b>", "<c>"}
	many := make([]int, 3*(api.MaxTriples+1))
	var shown []string
	for i := range api.MaxTriples + 1 {
		shown = append(shown, "<"+strconv.Itoa(1000+i)+">")
		many[3*i], many[3*i+1], many[3*i+2] = 1, 1, i+1
	}
	dict, _ := front.New(abc)
	good := file(t, abc, 1, []int{1, 2, 3}, 2)
	if _, no := Decode(good); no != api.OK {
		t.Fatal(no)
	}
	for i, b := range [][]byte{
		nil, {}, []byte("TRIV"), good[:len(good)-1], append(slices.Clone(good), 0),
		sections(t), sections(t, dict.Bytes()), sections(t, dict.Bytes(), []byte{0, 1, 0x39}, nil), sections(t, dict.Bytes(), nil), sections(t, dict.Bytes(), []byte{0}),
		sections(t, nil, []byte{0, 0}), sections(t, []byte{0, 0}, []byte{0, 0, 0}), sections(t, []byte{0}, []byte{0, 0}), sections(t, dict.Bytes(), []byte{0, 0}),
		sections(t, []byte{0, 0}, []byte{0xff, 0xff}), sections(t, []byte{0, 0}, []byte{0, 1}),
		file(t, abc, 1, []int{1, 2, 3}, 3),
		file(t, abc, 1, []int{0, 2, 3}, 2), file(t, abc, 1, []int{1, 2, 0}, 2), file(t, abc[:2], 1, []int{1, 2, 3}, 2),
		file(t, abc, 2, []int{1, 2, 3}, 2), file(t, abc, 0, []int{1, 2, 3}, 2), file(t, abc, 257, []int{1, 2, 3}, 2),
		file(t, abc, 2, []int{1, 2, 3, 1, 2, 3}, 2), file(t, abc, 2, []int{2, 2, 3, 1, 2, 3}, 2),
		file(t, []string{"<a>", "<b>", "<c>", "<d>"}, 1, []int{1, 2, 3}, 3), file(t, abc, 0, nil, 2),
		file(t, []string{`"a"`, "<b>", "<c>"}, 1, []int{1, 2, 3}, 2), file(t, []string{"<a>", "<c>", "_:b"}, 1, []int{1, 3, 2}, 2),
		file(t, []string{"<>", "<b>", "<c>"}, 1, []int{1, 2, 3}, 2), file(t, []string{"<a b>", "<b>", "<c>"}, 1, []int{1, 2, 3}, 2), file(t, []string{"a", "b", "c"}, 1, []int{1, 2, 3}, 2),
		file(t, []string{"\"\\u0041\"", "<b>", "<c>"}, 1, []int{2, 3, 1}, 2), file(t, []string{"\"\\u001f\"", "<b>", "<c>"}, 1, []int{2, 3, 1}, 2),
		file(t, []string{"\"a\"@EN", "<b>", "<c>"}, 1, []int{2, 3, 1}, 2), file(t, []string{"\"\\'\"", "<b>", "<c>"}, 1, []int{2, 3, 1}, 2),
		file(t, []string{" <a>", "<b>", "<c>"}, 1, []int{1, 2, 3}, 2), file(t, []string{"#", "<b>", "<c>"}, 1, []int{1, 2, 3}, 2), file(t, []string{"<a>", "<b>", "<c>."}, 1, []int{1, 2, 3}, 2),
		file(t, []string{"<a> <b> <c> . #", "<b>", "<c>"}, 1, []int{1, 2, 3}, 2), file(t, []string{"<a>", "<b>", "<c> . #"}, 1, []int{1, 2, 3}, 2), file(t, []string{"<a>", "<b>", "<c> . #\n"}, 1, []int{1, 2, 3}, 2),
		file(t, []string{"\"" + strings.Repeat("x", 31) + "\"", "<b>", "<c>"}, 1, []int{2, 3, 1}, 2), file(t, []string{"\"\xff\"", "<b>", "<c>"}, 1, []int{2, 3, 1}, 2),
		file(t, shown, api.MaxTriples+1, many, 7),
		make([]byte, 1<<18),
	} {
		if s, no := Decode(b); s != nil || no != api.ErrForm {
			t.Errorf("%d %.60x %v", i, b, no)
		}
	}
}

// P11.3: each file of the sums' right but another byte in a body is refused, or is just the file of what is read.
func TestDecodeOfOthers(t *testing.T) {
	l, _ := box.Unpack(load(t, "<a><b><c>.\n<a><b>\"c\"@en.\n_:a<c><a>.").Encode())
	for which := range l {
		for i := range l[which].Body {
			for c := range 256 {
				bodies := [][]byte{slices.Clone(l[0].Body), slices.Clone(l[1].Body)}
				bodies[which][i] = byte(c)
				b := sections(t, bodies...)
				s, no := Decode(b)
				if no == api.OK && !bytes.Equal(s.Encode(), b) || no != api.OK && (s != nil || no != api.ErrForm) {
					t.Fatalf("%x %v", b, no)
				}
				for _, x := range s.Triples() {
					if !lines.Is(x) {
						t.Fatalf("%x %+v", b, x)
					}
				}
			}
		}
	}
}

// P11.4, P0.1
func TestOneSetOneFile(t *testing.T) {
	a := load(t, "<a><b><c>.\n<a><b>\"\\n\"@en.\n_:x<b><c>.")
	b := load(t, "#\n _:x <\\u0062> <c> . # x\r\n<a><b>\"\\u000A\"@EN.\n\n<a><b><c>.\n<a><b><c>.")
	if !bytes.Equal(a.Encode(), b.Encode()) || a.Export() != b.Export() {
		t.Error(a.Export(), b.Export())
	}
	if again := load(t, a.Export()); !bytes.Equal(again.Encode(), a.Encode()) {
		t.Error(again.Export())
	}
	if other := load(t, "<a><b><c>."); bytes.Equal(other.Encode(), a.Encode()) {
		t.Error("two sets")
	}
}

// P11.4
func TestNothingShared(t *testing.T) {
	s := load(t, "<a><b><c>.\n<d><b><c>.")
	b := s.Encode()
	room := append(slices.Clone(b), 'x')
	back, no := Decode(room[:len(b)])
	if no != api.OK || room[len(b)] != 'x' {
		t.Fatal(no)
	}
	clear(room)
	for _, s := range []*Store{s, back} {
		want := s.Export()
		triples, terms, file := s.Triples(), s.Terms(), s.Encode()
		clear(triples[:cap(triples)])
		clear(terms[:cap(terms)])
		clear(file[:cap(file)])
		if s.Export() != want || !bytes.Equal(s.Encode(), b) || s.Triples()[0].S != iri("a") || s.Terms()[0] != iri("a") || s.Ring() != s.Ring() {
			t.Error("shared")
		}
	}
}

// P11.4
func TestNil(t *testing.T) {
	var s *Store
	a, ok := s.Term(1)
	if s.Encode() != nil || s.Export() != "" || s.Len() != 0 || s.Triples() != nil || s.Terms() != nil || s.ID(iri("a")) != 0 || ok || a != (api.Term{}) {
		t.Error("nil")
	}
	var none *ring.Ring
	if s.Ring() != none {
		t.Error("ring")
	}
	zero := &Store{}
	if zero.Len() != 0 || zero.ID(api.Term{}) != 0 || zero.Ring().Len() != 0 || !bytes.Equal(zero.Encode(), load(t, "").Encode()) {
		t.Error("zero")
	}
}
