package run

import (
	"bytes"
	"slices"
	"strings"
	"testing"

	"trivium/api"
	"trivium/lines"
	"trivium/store"
	"trivium/term"
	"trivium/walk"
)

// spellings are texts of one set.
func spellings() []string {
	return []string{
		"<a> <p> <b> .\n<a> <p> \"\\n\\\"x\"@en-us .\n<b> <p> <a> .\n_:c <q> \"1\"^^<t> .\n",
		"_:c<q>\"\\u0031\"^^<\\u0074>.#\r\n<b><p><a>.\r\n\r\n\t<a>\t<p>\t<b>\t.\t\n<a><p>\"\\u000A\\u0022\\U00000078\"@EN-US.",
		"<b><p><a>.\n<b><p><a>.\n<a><p><b>.\n# x\n_:c<q>\"1\"^^<t>.\n<a><p><b>.\n<a><p>\"\\n\\\"x\"@En-uS.\n<\\u0061><p><b>.\n",
	}
}

// P0.1
func TestATextIsASet(t *testing.T) {
	want := load(t, spellings()[0])
	for _, s := range spellings() {
		made := load(t, s)
		back, no := store.Decode(made.Encode())
		if no != api.OK {
			t.Fatal(no)
		}
		again := load(t, back.Export())
		for _, each := range []*store.Store{made, back, again} {
			if each.Export() != want.Export() || !bytes.Equal(each.Encode(), want.Encode()) || !slices.Equal(each.Triples(), lines.Sort(want.Triples())) {
				t.Error(s, each.Export())
			}
		}
	}
	for s, line := range map[string]int{"<a><p><b>.\n\nx\n<a><p>y.": 3, "<a><p><b>": 1, "<a><p><b>.\n<a><p>\"x.\n": 2, strings.Repeat("\n", 200) + "x": 201} {
		if made, n, no := store.Load(s); made != nil || n != line || no == api.OK {
			t.Errorf("%.20q %d %v", s, n, no)
		}
	}
}

// P0.2
func TestAFileIsASet(t *testing.T) {
	good := load(t, spellings()[0]).Encode()
	for i := range good {
		for c := 1; c < 256; c++ {
			b := slices.Clone(good)
			b[i] ^= byte(c)
			s, no := store.Decode(b)
			if no == api.OK && !bytes.Equal(s.Encode(), b) || no != api.OK && s != nil {
				t.Error(i, c, no)
			}
		}
		if s, no := store.Decode(good[:i]); s != nil || no != api.ErrForm {
			t.Error("cut at", i, no)
		}
	}
}

// P0.3, P16.3
func TestRowsHangOnTheSet(t *testing.T) {
	for _, q := range []api.Query{
		choose(t, "x y", "?x <p> ?y"), choose(t, "y", "?x !<q> ?y"), choose(t, "y x", "?x (<p>|^<p>)* ?y"), choose(t, "", "?x <q> ?y"), choose(t, "z", "?x <p> ?y", "?y <p> ?z"),
	} {
		want := mustSelect(t, load(t, spellings()[0]), q)
		if !slices.IsSortedFunc(want, func(a, b []api.Term) int { return slices.CompareFunc(a, b, term.Cmp) }) {
			t.Error("not sorted", texts(want))
		}
		for i := range want[1:] {
			if slices.Equal(want[i], want[i+1]) {
				t.Error("twice", texts(want))
			}
		}
		for _, s := range spellings() {
			made := load(t, s)
			back, _ := store.Decode(made.Encode())
			for _, each := range []*store.Store{made, back} {
				if rows := mustSelect(t, each, q); !slices.EqualFunc(rows, want, slices.Equal[[]api.Term]) {
					t.Error(s, texts(rows), texts(want))
				}
			}
		}
		for offset := range len(want) + 2 {
			part := q
			part.Offset, part.Limit = offset, 2
			rows := mustSelect(t, load(t, spellings()[1]), part)
			rest := want[min(offset, len(want)):]
			if !slices.EqualFunc(rows, rest[:min(2, len(rest))], slices.Equal[[]api.Term]) {
				t.Error(offset, texts(rows))
			}
		}
	}
}

// P0.4
func TestPathsBetweenEnds(t *testing.T) {
	s := load(t, "<a><p><b>.\n<b><p><c>.\n<c><p><a>.\n<c><q><d>.\n<d><q><d>.")
	for shown, want := range map[string]string{
		"a <p>* ?x": "a b c", "a <p>+ ?x": "a b c", "d <p>* ?x": "d", "d <p>+ ?x": "", "?x <p>* a": "a b c", "?x <p>*/<q>+ d": "a b c d", "a (<p>/<p>)+ ?x": "a b c",
		"q <p>? ?x": "q", "?x <q>* d": "c d", "?x <p>? ?x": "a b c d p q", "?x <p>+ ?x": "a b c", "?x <q> ?x": "d", "a (<p>/<p>/<p>)* ?x": "a", "a ^(<p>*/<p>) ?x": "a b c",
	} {
		if rows := mustSelect(t, s, choose(t, "x", shown)); texts(rows) != want {
			t.Error(shown, texts(rows))
		}
	}
	// What a query tells and what a walk tells are the same.
	p := path(t, "(<p>|^<q>)+/<q>?")
	q := choose(t, "x y", "?x (<p>|^<q>)+/<q>? ?y")
	pairs, _ := walk.Pairs(s, p)
	rows := mustSelect(t, s, q)
	if len(pairs) != len(rows) || len(rows) == 0 {
		t.Fatal(len(pairs), len(rows))
	}
	for i, row := range rows {
		if s.ID(row[0]) != pairs[i][0] || s.ID(row[1]) != pairs[i][1] {
			t.Error(i, row)
		}
	}
}
