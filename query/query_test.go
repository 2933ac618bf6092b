package query

import (
	"math"
	"slices"
	"strings"
	"testing"

	"trivium/api"
)

func variable(s string) api.End { return api.End{Var: s} }
func end(s string) api.End      { return api.End{T: api.Term{Kind: api.IRI, Text: s}} }

func pattern(s, o string) api.Pattern {
	return api.Pattern{S: variable(s), P: iri("p"), O: variable(o)}
}

// plain is a query of x and y.
func plain() api.Query {
	return api.Query{Patterns: []api.Pattern{pattern("x", "y")}, Limit: -1}
}

// with is a plain query that is changed.
func with(change func(q *api.Query)) api.Query {
	q := plain()
	change(&q)
	return q
}

func queriesThatMayBe() []api.Query {
	l := []api.Query{
		plain(),
		with(func(q *api.Query) { q.Ask = true }),
		with(func(q *api.Query) { q.Vars = []string{"y", "x"} }),
		with(func(q *api.Query) { q.Vars = []string{"y"} }),
		with(func(q *api.Query) { q.Vars = []string{}; q.Filters = []api.Filter{}; q.Ask = true }),
		with(func(q *api.Query) { q.Limit = 0 }),
		with(func(q *api.Query) { q.Limit = 1000; q.Offset = 1000 }),
		with(func(q *api.Query) { q.Ask = true; q.Limit = 5; q.Offset = 5 }),
		with(func(q *api.Query) { q.Patterns[0] = pattern("x", "x") }),
		with(func(q *api.Query) { q.Patterns[0] = pattern("abcdefgh", "a") }),
		with(func(q *api.Query) { q.Patterns[0] = pattern("z", "az") }),
		with(func(q *api.Query) { q.Patterns[0].S = api.End{T: api.Term{Kind: api.Plain, Text: ""}} }),
		with(func(q *api.Query) { q.Patterns[0].S, q.Patterns[0].O = end("a"), end("b") }),
		with(func(q *api.Query) {
			q.Patterns = append(q.Patterns, pattern("a", "b"), pattern("c", "d"), pattern("x", "d"))
		}),
		with(func(q *api.Query) { q.Patterns[0].P = deep(api.MaxDeep, iri("a")) }),
	}
	for _, op := range []string{"<", "<=", ">", ">=", "=", "!="} {
		l = append(l, with(func(q *api.Query) {
			q.Filters = []api.Filter{{Var: "x", Op: op, N: math.NaN()}, {Var: "y", Op: op, N: math.Inf(-1)}, {Var: "x", Op: op}}
		}))
	}
	return l
}

func queriesThatMayNotBe() []api.Query {
	l := []api.Query{
		{}, {Limit: -1},
		with(func(q *api.Query) { q.Patterns = []api.Pattern{} }),
		with(func(q *api.Query) { q.Patterns = make([]api.Pattern, 1<<16) }),
		with(func(q *api.Query) { q.Patterns = slices.Repeat(q.Patterns, api.MaxPatterns+1) }),
		with(func(q *api.Query) {
			q.Patterns = append(q.Patterns, pattern("a", "b"), pattern("c", "d"), pattern("x", "e"))
		}),
		with(func(q *api.Query) { q.Patterns = append(q.Patterns, api.Pattern{}) }),
		with(func(q *api.Query) { q.Patterns[0].S = api.End{} }),
		with(func(q *api.Query) { q.Patterns[0].O = api.End{} }),
		with(func(q *api.Query) { q.Patterns[0].O.T = end("a").T }),
		with(func(q *api.Query) { q.Patterns[0].S.T.Extra = "a" }),
		with(func(q *api.Query) { q.Patterns[0].S.T.Kind = 7 }),
		with(func(q *api.Query) { q.Patterns[0].O = end("a b") }),
		with(func(q *api.Query) { q.Patterns[0].O = api.End{T: api.Term{Kind: api.Lang, Text: "a", Extra: "EN"}} }),
		with(func(q *api.Query) { q.Patterns[0].P = api.Path{} }),
		with(func(q *api.Query) { q.Patterns[0].P = iri("") }),
		with(func(q *api.Query) { q.Patterns[0].P = round(api.PathStar) }),
		with(func(q *api.Query) { q.Filters = []api.Filter{{Var: "z", Op: "<"}} }),
		with(func(q *api.Query) { q.Filters = []api.Filter{{Op: "<"}} }),
		with(func(q *api.Query) { q.Filters = slices.Repeat([]api.Filter{{Var: "x", Op: "<"}}, api.MaxFilters+1) }),
		with(func(q *api.Query) { q.Filters = []api.Filter{{Var: "x", Op: "<"}, {Var: "x"}} }),
		with(func(q *api.Query) { q.Vars = []string{"z"} }),
		with(func(q *api.Query) { q.Vars = []string{""} }),
		with(func(q *api.Query) { q.Vars = []string{"x", "x"} }),
		with(func(q *api.Query) { q.Vars = []string{"x", "y", "x"} }),
		with(func(q *api.Query) { q.Vars = make([]string, 1<<16) }),
		with(func(q *api.Query) { q.Ask = true; q.Vars = []string{"x"} }),
		with(func(q *api.Query) { q.Limit = -2 }), with(func(q *api.Query) { q.Limit = 1001 }), with(func(q *api.Query) { q.Limit = math.MinInt }), with(func(q *api.Query) { q.Limit = math.MaxInt }),
		with(func(q *api.Query) { q.Offset = -1 }), with(func(q *api.Query) { q.Offset = 1001 }), with(func(q *api.Query) { q.Offset = math.MinInt }), with(func(q *api.Query) { q.Offset = math.MaxInt }),
		with(func(q *api.Query) { q.Ask = true; q.Limit = -2 }),
	}
	for _, name := range []string{"X", "x1", "abcdefghi", "é", "x ", "?x", "_", "\xff", "`", "{", strings.Repeat("x", 1<<16)} {
		l = append(l, with(func(q *api.Query) { q.Patterns[0].S.Var = name }), with(func(q *api.Query) { q.Patterns[0].O.Var = name }))
	}
	for _, op := range []string{"", "==", "<>", "=<", "=>", "!", "! =", "<\x00", " <"} {
		l = append(l, with(func(q *api.Query) { q.Filters = []api.Filter{{Var: "x", Op: op}} }))
	}
	return l
}

// P12.3
func TestIs(t *testing.T) {
	for i, q := range queriesThatMayBe() {
		if !Is(q) {
			t.Errorf("%d %+v", i, q)
		}
	}
	for i, q := range queriesThatMayNotBe() {
		if Is(q) {
			t.Error(i)
		}
	}
}

// P12.3
func TestVars(t *testing.T) {
	q := plain()
	q.Patterns = []api.Pattern{pattern("z", "a"), {S: end("e"), P: iri("p"), O: variable("b")}, pattern("b", "z"), pattern("a", "y")}
	q.Vars = []string{"a"}
	q.Filters = []api.Filter{{Var: "other", Op: "<"}}
	want := []string{"z", "a", "b", "y"}
	got := Vars(q)
	if !slices.Equal(got, want) {
		t.Error(got)
	}
	clear(got[:cap(got)])
	if !slices.Equal(Vars(q), want) || !slices.Equal(q.Vars, []string{"a"}) {
		t.Error("shared")
	}
	none := api.Query{Patterns: []api.Pattern{{S: end("a"), P: iri("p"), O: end("b")}}, Limit: -1}
	if len(Vars(none)) != 0 || !Is(none) || len(Vars(api.Query{})) != 0 {
		t.Error("none")
	}
	if l := Vars(api.Query{Patterns: slices.Repeat([]api.Pattern{pattern("x", "y")}, 1<<16)}); !slices.Equal(l, []string{"x", "y"}) {
		t.Error("many", len(l))
	}
}
