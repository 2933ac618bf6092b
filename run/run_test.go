package run

import (
	"math"
	"slices"
	"strconv"
	"strings"
	"testing"

	"trivium/api"
	"trivium/query"
	"trivium/store"
	"trivium/term"
)

func load(t *testing.T, s string) *store.Store {
	t.Helper()
	made, _, no := store.Load(s)
	if no != api.OK {
		t.Fatal(s, no)
	}
	return made
}

func path(t *testing.T, s string) api.Path {
	t.Helper()
	p, _, no := query.Path(s)
	if no != api.OK {
		t.Fatal(s, no)
	}
	return p
}

// end is a variable, behind a question mark, or an IRI.
func end(s string) api.End {
	if name, ok := strings.CutPrefix(s, "?"); ok {
		return api.End{Var: name}
	}
	return api.End{T: api.Term{Kind: api.IRI, Text: s}}
}

// choose is a query of Vars, parted by blanks, and of patterns, each as an end, a path and an end.
func choose(t *testing.T, vars string, l ...string) api.Query {
	t.Helper()
	q := api.Query{Vars: strings.Fields(vars), Limit: -1}
	for _, s := range l {
		part := strings.Fields(s)
		q.Patterns = append(q.Patterns, api.Pattern{S: end(part[0]), P: path(t, part[1]), O: end(part[2])})
	}
	return q
}

// texts is rows in short: their terms' Texts, parted by points.
func texts(rows [][]api.Term) string {
	var all []string
	for _, row := range rows {
		var l []string
		for _, a := range row {
			l = append(l, a.Text)
		}
		all = append(all, strings.Join(l, "."))
	}
	return strings.Join(all, " ")
}

const family = "<a><p><b>.\n<a><p><c>.\n<b><p><d>.\n<c><p><d>.\n<d><q><a>.\n<e><p>\"x\".\n<e><p>_:b."

// P16.1
func TestSelect(t *testing.T) {
	s := load(t, family)
	for _, x := range []struct {
		want, vars string
		patterns   []string
	}{
		{"a.b a.c b.d c.d e.x e.b", "x y", []string{"?x <p> ?y"}},
		{"x.e b.a c.a d.b d.c b.e", "y x", []string{"?x <p> ?y"}},
		{"a b c e", "x", []string{"?x <p> ?y"}},
		{"x b c d b", "y", []string{"?x <p> ?y"}},
		{"", "x", []string{"?x <r> ?y"}},
		{"d.a", "z x", []string{"?x <p> ?y", "?y <p> ?z"}},
		{"a", "x", []string{"?x <p> ?y", "?y <p> ?z", "?z <q> ?x"}},
	} {
		rows, no := Select(s, choose(t, x.vars, x.patterns...))
		if no != api.OK || texts(rows) != x.want {
			t.Error(x.vars, x.patterns, texts(rows), no)
		}
	}
}

// P16.1
func TestLimitAndOffset(t *testing.T) {
	s := load(t, family)
	q := choose(t, "x y", "?x <p> ?y")
	all, _ := Select(s, q)
	for _, offset := range []int{0, 1, 2, 5, 6, 7, 1000} {
		for _, limit := range []int{-1, 0, 1, 2, 5, 6, 7, 1000} {
			q.Limit, q.Offset = limit, offset
			want := all[min(offset, len(all)):]
			if limit >= 0 {
				want = want[:min(limit, len(want))]
			}
			rows, no := Select(s, q)
			if no != api.OK || !slices.EqualFunc(rows, want, slices.Equal[[]api.Term]) {
				t.Error(offset, limit, texts(rows), no)
			}
		}
	}
}

// P16.1
func TestWithoutVars(t *testing.T) {
	s := load(t, family)
	for _, patterns := range [][]string{{"?x <p> ?y"}, {"a <p> b"}, {"z <p>* z"}} {
		q := choose(t, "", patterns...)
		if rows, no := Select(s, q); no != api.OK || len(rows) != 1 || len(rows[0]) != 0 {
			t.Error(patterns, rows, no)
		}
		q.Offset = 1
		if rows, no := Select(s, q); no != api.OK || len(rows) != 0 {
			t.Error(patterns, rows, no)
		}
		q.Offset, q.Limit = 0, 0
		if rows, no := Select(s, q); no != api.OK || len(rows) != 0 {
			t.Error(patterns, rows, no)
		}
	}
	if rows, no := Select(s, choose(t, "", "?x <r> ?y")); no != api.OK || len(rows) != 0 {
		t.Error(rows, no)
	}
}

// numbers is a store of n things, each with one number; and of some with what is no number.
func numbers(t *testing.T) *store.Store {
	t.Helper()
	var b strings.Builder
	for i, n := range []string{"NaN", "-INF", "-1.5", "-0", "0", "00", "1", "1.0", "1e0", "2", "INF", "1e22"} {
		kind := []string{"double", "decimal", "integer"}[i%3]
		b.WriteString("<n" + strconv.Itoa(i) + "><v>\"" + n + "\"^^<http://www.w3.org/2001/XMLSchema#" + kind + ">.\n")
	}
	for i, o := range []string{`"1"`, `"1"@en`, `<1>`, `_:1`, `"1"^^<http://www.w3.org/2001/XMLSchema#float>`, `"one"^^<http://www.w3.org/2001/XMLSchema#double>`, `"1e23"^^<http://www.w3.org/2001/XMLSchema#double>`} {
		b.WriteString("<x" + strconv.Itoa(i) + "><v>" + o + ".\n")
	}
	return load(t, b.String())
}

// P16.1, P0.3
func TestFilters(t *testing.T) {
	s := numbers(t)
	for _, x := range []struct {
		op   string
		n    float64
		want string
	}{
		{"=", 1, "n6 n7 n8"}, {"!=", 1, "n0 n10 n11 n1 n2 n3 n4 n5 n9"}, {"=", 0, "n3 n4 n5"}, {"=", math.Copysign(0, -1), "n3 n4 n5"}, {"<", 0, "n1 n2"}, {"<", math.Copysign(0, -1), "n1 n2"},
		{"<=", 0, "n1 n2 n3 n4 n5"}, {">", 2, "n10 n11"}, {">=", 2, "n10 n11 n9"}, {"=", math.NaN(), ""}, {"<", math.NaN(), ""}, {">=", math.NaN(), ""},
		{"!=", math.NaN(), "n0 n10 n11 n1 n2 n3 n4 n5 n6 n7 n8 n9"}, {"=", math.Inf(1), "n10"}, {"<", math.Inf(-1), ""}, {"<=", math.Inf(-1), "n1"}, {">", 1e22, "n10"}, {"=", 1e22, "n11"}, {">", math.MaxFloat64, "n10"},
	} {
		q := choose(t, "x", "?x <v> ?n")
		q.Filters = []api.Filter{{Var: "n", Op: x.op, N: x.n}}
		rows, no := Select(s, q)
		if no != api.OK || texts(rows) != x.want {
			t.Error(x.op, x.n, texts(rows), no)
		}
		q.Vars, q.Ask = nil, true
		if yes, no := Ask(s, q); no != api.OK || yes != (x.want != "") {
			t.Error(x.op, x.n, yes, no)
		}
	}
	q := choose(t, "x", "?x <v> ?n")
	q.Filters = []api.Filter{{Var: "n", Op: ">", N: -2}, {Var: "n", Op: "<=", N: 1}, {Var: "n", Op: "!=", N: 0}}
	if rows, no := Select(s, q); no != api.OK || texts(rows) != "n2 n6 n7 n8" {
		t.Error(texts(rows), no)
	}
	q.Filters = []api.Filter{{Var: "x", Op: "!=", N: 0}}
	if rows, no := Select(s, q); no != api.OK || len(rows) != 0 {
		t.Error(texts(rows), no)
	}
	q.Filters = []api.Filter{{Var: "n", Op: "=", N: 1}, {Var: "m", Op: ">", N: 2}}
	q.Patterns = append(q.Patterns, api.Pattern{S: end("n11"), P: path(t, "<v>"), O: end("?m")})
	q.Limit, q.Offset = 1, 1
	if rows, no := Select(s, q); no != api.OK || texts(rows) != "n7" {
		t.Error(texts(rows), no)
	}
}

// P16.2
func TestAsk(t *testing.T) {
	s := load(t, family)
	for pattern, want := range map[string]bool{"?x <p> ?y": true, "?x <r> ?y": false, "a <p> b": true, "b <p> a": false, "a <p>+ d": true, "z <p>? z": true, "z <p> z": false} {
		q := choose(t, "", pattern)
		q.Ask = true
		if yes, no := Ask(s, q); no != api.OK || yes != want {
			t.Error(pattern, yes, no)
		}
		q.Limit, q.Offset = 0, 1000
		if yes, no := Ask(s, q); no != api.OK || yes != want {
			t.Error(pattern, "with Limit and Offset", yes, no)
		}
		if yes, no := Ask(load(t, ""), q); no != api.OK || yes != (pattern == "z <p>? z") {
			t.Error(pattern, "of nothing", yes, no)
		}
	}
}

// P16.1, P16.2
func TestErrors(t *testing.T) {
	var b strings.Builder
	for i := range 30 {
		b.WriteString("<a><p><" + strconv.Itoa(i) + ">.\n")
	}
	s := load(t, b.String())
	good, asks := choose(t, "x", "a <p> ?x"), choose(t, "", "a <p> ?x")
	asks.Ask = true
	wrong, wrongAsk := choose(t, "z", "a <p> ?x"), choose(t, "x", "a <p> ?x")
	wrongAsk.Ask = true
	full, fullAsk := choose(t, "x", "a <p> ?x", "a <p> ?y"), choose(t, "", "a <p> ?x", "a <p> ?y")
	fullAsk.Ask = true
	fullAsk.Limit = 1
	for i, x := range []struct {
		s           *store.Store
		q           api.Query
		choice, ask api.Errno
	}{
		{s, good, api.OK, api.ErrArg}, {s, asks, api.ErrArg, api.OK}, {nil, good, api.ErrArg, api.ErrArg}, {nil, asks, api.ErrArg, api.ErrArg}, {s, api.Query{}, api.ErrArg, api.ErrArg},
		{s, api.Query{Ask: true}, api.ErrArg, api.ErrArg}, {s, wrong, api.ErrArg, api.ErrArg}, {s, wrongAsk, api.ErrArg, api.ErrArg},
		// What Rows says comes ahead of what the query asks.
		{s, full, api.ErrFull, api.ErrFull}, {s, fullAsk, api.ErrFull, api.ErrFull},
	} {
		if rows, no := Select(x.s, x.q); no != x.choice || no != api.OK && rows != nil {
			t.Error(i, texts(rows), no)
		}
		if yes, no := Ask(x.s, x.q); no != x.ask || no != api.OK && yes {
			t.Error(i, yes, no)
		}
	}
	full.Filters = []api.Filter{{Var: "x", Op: "=", N: 1}}
	if rows, no := Select(s, full); rows != nil || no != api.ErrFull {
		t.Error("filters don't make it less", no)
	}
}

// P16.3
func TestNothingShared(t *testing.T) {
	s := load(t, family)
	q := choose(t, "x y", "?x <p> ?y")
	q.Filters = nil
	before, file := texts(mustSelect(t, s, q)), s.Encode()
	rows := mustSelect(t, s, q)
	clear(rows[0][:cap(rows[0])])
	if texts(rows[1:]) != strings.SplitN(before, " ", 2)[1] {
		t.Error("two rows share")
	}
	if texts(mustSelect(t, s, q)) != before || !slices.Equal(s.Encode(), file) || !slices.Equal(q.Vars, []string{"x", "y"}) {
		t.Error("shared or changed")
	}
}

func mustSelect(t *testing.T, s *store.Store, q api.Query) [][]api.Term {
	t.Helper()
	rows, no := Select(s, q)
	if no != api.OK {
		t.Fatal(no)
	}
	return rows
}

// P16.1: rows are sorted by the texts of terms, whatever the numbers in them.
func TestOrder(t *testing.T) {
	s := numbers(t)
	rows := mustSelect(t, s, choose(t, "n x", "?x <v> ?n"))
	if len(rows) != 19 || !slices.IsSortedFunc(rows, func(a, b []api.Term) int { return slices.CompareFunc(a, b, term.Cmp) }) {
		t.Error(texts(rows))
	}
	if texts(rows[1:4]) != "-1.5.n2 -INF.n1 0.n4" {
		t.Error(texts(rows))
	}
}
