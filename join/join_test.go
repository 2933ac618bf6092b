package join

import (
	"slices"
	"strconv"
	"strings"
	"testing"

	"trivium/api"
	"trivium/query"
	"trivium/store"
	"trivium/walk"
)

func load(t *testing.T, s string) *store.Store {
	t.Helper()
	made, _, no := store.Load(s)
	if no != api.OK {
		t.Fatal(s, no)
	}
	return made
}

func path(t *testing.T, s string) api.Path {
	t.Helper()
	p, _, no := query.Path(s)
	if no != api.OK {
		t.Fatal(s, no)
	}
	return p
}

// end is a variable, behind a question mark, or an IRI.
func end(s string) api.End {
	if name, ok := strings.CutPrefix(s, "?"); ok {
		return api.End{Var: name}
	}
	return api.End{T: api.Term{Kind: api.IRI, Text: s}}
}

// ask is a query of patterns, each as an end, a path and an end.
func ask(t *testing.T, l ...string) api.Query {
	t.Helper()
	q := api.Query{Limit: -1}
	for _, s := range l {
		part := strings.Fields(s)
		q.Patterns = append(q.Patterns, api.Pattern{S: end(part[0]), P: path(t, part[1]), O: end(part[2])})
	}
	return q
}

// names is rows in short: a row's IRIs in one word, parted by points.
func names(s *store.Store, rows [][]int) string {
	var all []string
	for _, row := range rows {
		var l []string
		for _, id := range row {
			t, _ := s.Term(id)
			l = append(l, t.Text)
		}
		all = append(all, strings.Join(l, "."))
	}
	return strings.Join(all, " ")
}

const family = "<a><p><b>.\n<a><p><c>.\n<b><p><d>.\n<c><p><d>.\n<d><q><d>.\n<d><q><a>.\n<e><r>\"x\"."

// P15.1
func TestRows(t *testing.T) {
	s := load(t, family)
	for _, x := range []struct {
		want     string
		patterns []string
	}{
		{"a.b a.c b.d c.d", []string{"?x <p> ?y"}},
		{"a.b a.c b.d c.d", []string{"?y <p> ?x"}},
		{"b.a c.a d.b d.c", []string{"?y ^<p> ?x"}},
		{"b c", []string{"a <p> ?y"}},
		{"b c", []string{"?x <p> d"}},
		{"d", []string{"?x <q> ?x"}},
		{"", []string{"?x <p> ?x"}},
		{"a", []string{"?x <p>+/<q> ?x"}},
		{"a.b.d a.c.d", []string{"?x <p> ?y", "?y <p> ?z"}},
		{"b.d.a c.d.a", []string{"?y <p> ?z", "?x <p> ?y"}},
		{"a.b.d a.c.d", []string{"?x <p> ?y", "?y <p> ?z", "?z <q> ?x"}},
		{"d", []string{"?x <q> d", "b <p> ?x"}},
		{"d", []string{"?x <q> d", "d <q> a"}},
		{"", []string{"?x <q> d", "d <q> b"}},
		{"", []string{"?x <p> ?y", "?z <x> ?u"}},
		{"", []string{"?x <p> ?y", "?y <p> ?x"}},
		{"a.b.b a.b.c a.c.b a.c.c b.d.d c.d.d", []string{"?x <p> ?y", "?x <p> ?z"}},
		{"d.a.e.x d.d.e.x", []string{"?x <q> ?y", "?u <r> ?v"}},
		{"a.d b.d c.d d.d", []string{"?x <p>* ?y", "?y <q> ?y"}},
	} {
		rows, no := Rows(s, ask(t, x.patterns...))
		if no != api.OK || names(s, rows) != x.want {
			t.Error(x.patterns, names(s, rows), no)
		}
	}
}

// P15.1: a term without a number is led to only by the word of no steps, and from itself.
func TestUnknownTerms(t *testing.T) {
	s := load(t, family)
	for pattern, want := range map[string]bool{
		"z <p>* z": true, "z <p>? z": true, "z <p>*/<q>? z": true, "z <p>|<q>* z": true, "z ^(<p>*) z": true, "z (<p>?)+ z": true, "z (!<p>)* z": true, "z <p>*|<q> z": true, "z <p>?/<q>? z": true,
		"z <p> z": false, "z !<p> z": false, "z <p>+ z": false, "z <p>*/<q> z": false, "z <p>|<q> z": false, "z ^<p> z": false, "z <p>/<q>* z": false,
		"z <p>* y": false, "z <p>* a": false, "a <p>* z": false, "a <p>* a": true, "p <q>* p": true, "a <p>* d": true, "d <p>* a": false,
	} {
		rows, no := Rows(s, ask(t, pattern))
		if no != api.OK || want && (len(rows) != 1 || len(rows[0]) != 0) || !want && len(rows) != 0 {
			t.Error(pattern, rows, no)
		}
	}
	for _, pattern := range []string{"z <p>* ?x", "?x <p>* z", "z !<p> ?x", "?x <p>+ z"} {
		if rows, no := Rows(s, ask(t, pattern)); no != api.OK || len(rows) != 0 {
			t.Error(pattern, rows, no)
		}
	}
	literal := ask(t, "z <p>* ?x")
	literal.Patterns[0].S = api.End{T: api.Term{Kind: api.Plain, Text: "x"}}
	if rows, no := Rows(s, literal); no != api.OK || names(s, rows) != "x" {
		t.Error(names(s, rows), no)
	}
	literal.Patterns[0].O = api.End{T: api.Term{Kind: api.IRI, Text: "x"}}
	if rows, no := Rows(s, literal); no != api.OK || len(rows) != 0 {
		t.Error(rows, no)
	}
	for pattern, want := range map[string]int{"a <p> b": 1, "b ^<p> a": 1, "b <p> a": 0, "a ^<p> b": 0} {
		if rows, no := Rows(load(t, "<a><p><b>."), ask(t, pattern)); no != api.OK || len(rows) != want {
			t.Error(pattern, rows, no)
		}
	}
	if rows, no := Rows(load(t, ""), ask(t, "z <p>* z")); no != api.OK || len(rows) != 1 {
		t.Error("empty store", rows, no)
	}
	if rows, no := Rows(load(t, ""), ask(t, "?x <p>* ?y")); no != api.OK || len(rows) != 0 {
		t.Error("empty store", rows, no)
	}
}

// model is all rows that hold, found by trying all.
func model(s *store.Store, q api.Query) [][]int {
	vars := query.Vars(q)
	row := make([]int, len(vars))
	var rows [][]int
	number := func(e api.End) int {
		if i := slices.Index(vars, e.Var); i >= 0 {
			return row[i]
		}
		return s.ID(e.T)
	}
	var try func(i int)
	try = func(i int) {
		if i < len(vars) {
			for node := range len(s.Terms()) {
				row[i] = node + 1
				try(i + 1)
			}
			return
		}
		for _, p := range q.Patterns {
			if has, _ := walk.Has(s, p.P, number(p.S), number(p.O)); !has {
				return
			}
		}
		rows = append(rows, slices.Clone(row))
	}
	try(0)
	return rows
}

// P15.1
func TestAgainstModel(t *testing.T) {
	seed := uint32(5)
	next := func(n int) int {
		seed = seed*1664525 + 1013904223
		return int(seed>>12) % n
	}
	paths := []string{"<p>", "<q>", "<p>*", "^<p>", "!<p>", "<p>/<q>", "<p>|^<q>", "<q>?"}
	ends := []string{"?x", "?y", "?z", "?x", "?y", "?z", "a", "b"}
	for range 150 {
		var text strings.Builder
		for range 2 + next(6) {
			text.WriteString("<" + string("abcd"[next(4)]) + "><" + string("pq"[next(2)]) + "><" + string("abcd"[next(4)]) + ">.\n")
		}
		s := load(t, text.String())
		var patterns []string
		for range 1 + next(4) {
			patterns = append(patterns, ends[next(8)]+" "+paths[next(8)]+" "+ends[next(8)])
		}
		q := ask(t, patterns...)
		if s.ID(end("a").T) == 0 || s.ID(end("b").T) == 0 {
			continue
		}
		if rows, no := Rows(s, q); no != api.OK || !slices.EqualFunc(rows, model(s, q), slices.Equal[[]int]) {
			t.Fatal(text.String(), patterns, names(s, rows), no)
		}
	}
}

// chain is n triples in a row, the last one back to the first node, if round.
func chain(n int, round bool) string {
	var text strings.Builder
	for i := range n {
		next := i + 1
		if round {
			next %= n
		}
		text.WriteString("<" + strconv.Itoa(1000+i) + "><p><" + strconv.Itoa(1000+next) + ">.\n")
	}
	return text.String()
}

// P15.1
func TestLimits(t *testing.T) {
	// 20 times 25 is 500.
	var text strings.Builder
	for i := range 25 {
		text.WriteString("<s><o><" + strconv.Itoa(i) + ">.\n")
		if i < 20 {
			text.WriteString("<s><e><" + strconv.Itoa(i) + ">.\n")
		}
	}
	s := load(t, text.String()+"<s><f><1>.\n")
	if rows, no := Rows(s, ask(t, "s <e> ?x", "s <o> ?y")); no != api.OK || len(rows) != api.MaxRows || !slices.IsSortedFunc(rows, slices.Compare[[]int]) {
		t.Error(len(rows), no)
	}
	if rows, no := Rows(s, ask(t, "s <e>|<f> ?x", "s <o>|<e> ?y")); no != api.OK || len(rows) != api.MaxRows {
		t.Error("each once", len(rows), no)
	}
	for _, patterns := range [][]string{{"s <o> ?x", "s <o> ?y"}, {"s <o> ?x", "s <o> ?y", "s <o> ?z"}, {"?x ^<o>/<o> ?y"}, {"?x <o>* ?y", "s <e> ?z"}} {
		if rows, no := Rows(s, ask(t, patterns...)); rows != nil || no != api.ErrFull {
			t.Error(patterns, len(rows), no)
		}
	}
	if rows, no := Rows(s, ask(t, "s <o> ?x", "s <o> ?y", "s <o> ?z", "s <x> ?u")); no != api.OK || len(rows) != 0 {
		t.Error("none holds", len(rows), no)
	}
	// A chain of 31 nodes has 31 * 32 / 2 = 496 pairs, and 5 of the others have themselves.
	s = load(t, chain(30, false)+"<x><q><y>.\n<x><q><z>.\n")
	if rows, no := Rows(s, ask(t, "?x <p>* ?y")); rows != nil || no != api.ErrFull {
		t.Error("501", len(rows), no)
	}
	s = load(t, chain(30, false)+"<x><q><y>.\n")
	if rows, no := Rows(s, ask(t, "?x <p>* ?y")); no != api.OK || len(rows) != api.MaxRows {
		t.Error("500", len(rows), no)
	}
}

// P15.1: what leads to few rows, or to none, by very many that nearly hold.
func TestManyThatNearlyHold(t *testing.T) {
	long := load(t, chain(api.MaxTriples, false))
	round := load(t, chain(api.MaxTriples, true))
	for _, x := range []struct {
		s        *store.Store
		patterns []string
	}{
		{long, []string{"?a <p>+ ?b", "?b <p>+ ?c", "?c <p>+ ?d", "?d <p>+ ?a"}},
		{long, []string{"?a <p>+ ?b", "?b <p>+ ?c", "?c <p>+ ?d", "?d <p>+/<x> ?e"}},
		{round, []string{"?a <p>+ ?b", "?b <p>+ ?c", "?c <p>+ ?d", "?d <p>+/<x> ?e"}},
		{long, []string{"?a <p>+ ?b", "?c <p>+ ?d", "?e <p>+ ?f", "?f <p>+/<x> ?a"}},
		{round, []string{"?a (<p>/<p>)* ?b", "?b (<p>/<p>)* ?c", "?c (<p>/<p>)* ?d", "?d <p>/(<p>/<p>)* ?a"}},
		{round, []string{"?c (<p>/<p>)* ?d", "?d (<p>/<p>)* ?a", "?a (<p>/<p>)* ?b", "?a <p>/(<p>/<p>)* ?b"}},
		{round, []string{"?e <p>+ ?f", "?c <p>+ ?d", "?a (<p>/<p>)+ ?b", "?a <p>/(<p>/<p>)* ?b"}},
	} {
		if rows, no := Rows(x.s, ask(t, x.patterns...)); no != api.OK || len(rows) != 0 {
			t.Error(x.patterns, len(rows), no)
		}
	}
}

// P15.1
func TestErrors(t *testing.T) {
	s := load(t, family)
	good := ask(t, "?x <p> ?y")
	// A star around 14 alternatives has more steps than may be.
	one := api.Path{Kind: api.PathIRI, Text: "p"}
	pair := api.Path{Kind: api.PathAlt, Kids: []api.Path{one, one}}
	four := api.Path{Kind: api.PathAlt, Kids: []api.Path{pair, pair}}
	eight := api.Path{Kind: api.PathAlt, Kids: []api.Path{four, four}}
	six := api.Path{Kind: api.PathAlt, Kids: []api.Path{four, pair}}
	full := api.Path{Kind: api.PathStar, Kids: []api.Path{{Kind: api.PathAlt, Kids: []api.Path{eight, six}}}}
	wrong := ask(t, "?x <p> ?y")
	wrong.Limit = -2
	for _, q := range []api.Query{{}, wrong, ask(t, "?x <p>****** ?y"), ask(t, "?X <p> ?y")} {
		if rows, no := Rows(s, q); rows != nil || no != api.ErrArg {
			t.Error(rows, no)
		}
	}
	if rows, no := Rows(nil, good); rows != nil || no != api.ErrArg {
		t.Error(rows, no)
	}
	for _, pattern := range []string{"?x <p> ?y", "?x <p> ?x", "a <p> ?x", "?x <p> a", "a <p> b", "z <p> ?x", "?x <p> z", "z <p> z", "a <p> z"} {
		q := ask(t, "a <x> b", "?x <x> ?y", pattern)
		q.Patterns[2].P = full
		if rows, no := Rows(s, q); rows != nil || no != api.ErrFull {
			t.Error(pattern, rows, no)
		}
		if rows, no := Rows(nil, q); rows != nil || no != api.ErrArg {
			t.Error(pattern, rows, no)
		}
	}
}

// P15.1, P15.2
func TestNothingElseLookedAt(t *testing.T) {
	s := load(t, family)
	plain := ask(t, "?x <p> ?y", "?y <p> ?z")
	q := ask(t, "?x <p> ?y", "?y <p> ?z")
	q.Vars, q.Filters, q.Limit, q.Offset = []string{"z"}, []api.Filter{{Var: "x", Op: "<", N: 1}}, 0, 7
	want, _ := Rows(s, plain)
	before := s.Encode()
	rows, no := Rows(s, q)
	if no != api.OK || !slices.EqualFunc(rows, want, slices.Equal[[]int]) || len(rows) != 2 {
		t.Error(rows, no)
	}
	q.Ask, q.Vars = true, nil
	if rows, no := Rows(s, q); no != api.OK || !slices.EqualFunc(rows, want, slices.Equal[[]int]) {
		t.Error(rows, no)
	}
	clear(rows[0][:cap(rows[0])])
	if again, _ := Rows(s, q); !slices.Equal(rows[1], want[1]) || !slices.EqualFunc(again, want, slices.Equal[[]int]) || !slices.Equal(s.Encode(), before) {
		t.Error("shared or changed")
	}
}
