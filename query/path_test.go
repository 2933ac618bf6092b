package query

import (
	"slices"
	"strings"
	"testing"

	"trivium/api"
)

func iri(s string) api.Path             { return api.Path{Kind: api.PathIRI, Text: s} }
func not(l ...string) api.Path          { return api.Path{Kind: api.PathNot, Texts: l} }
func one(kind int, a api.Path) api.Path { return api.Path{Kind: kind, Kids: []api.Path{a}} }
func two(kind int, a, b api.Path) api.Path {
	return api.Path{Kind: kind, Kids: []api.Path{a, b}}
}

func back(a api.Path) api.Path   { return one(api.PathBack, a) }
func star(a api.Path) api.Path   { return one(api.PathStar, a) }
func plus(a api.Path) api.Path   { return one(api.PathPlus, a) }
func maybe(a api.Path) api.Path  { return one(api.PathMaybe, a) }
func seq(a, b api.Path) api.Path { return two(api.PathSeq, a, b) }
func alt(a, b api.Path) api.Path { return two(api.PathAlt, a, b) }

// round is a path that is its own Kid.
func round(kind int) api.Path {
	l := make([]api.Path, kids(kind))
	for i := range l {
		l[i] = api.Path{Kind: kind, Kids: l}
	}
	return l[0]
}

// deep is n paths around one.
func deep(n int, a api.Path) api.Path {
	for range n {
		a = star(a)
	}
	return a
}

// wide is a path of n levels, whose two Kids are one and the same.
func wide(n int) api.Path {
	a := iri("a")
	for range n {
		a = alt(a, a)
	}
	return a
}

// full is a path of n paths, n odd, in little depth.
func full(n int) api.Path {
	if n < 3 {
		return iri("a")
	}
	low := (n - 1) / 2
	if low%2 == 0 {
		low--
	}
	return seq(full(low), full(n-1-low))
}

// P12.1
func TestPath(t *testing.T) {
	a, b, c := iri("a"), iri("b"), iri("c")
	for s, want := range map[string]api.Path{
		"<a>/<b>|<c>*":               alt(seq(a, b), star(c)),
		"<a>":                        a,
		"  <a> ":                     a,
		"(<a>)":                      a,
		" ( ( <a> ) ) ":              a,
		"<a>/<b>/<c>":                seq(seq(a, b), c),
		"<a>|<b>|<c>":                alt(alt(a, b), c),
		"<a>/(<b>/<c>)":              seq(a, seq(b, c)),
		"<a>|(<b>|<c>)":              alt(a, alt(b, c)),
		"<a>|<b>/<c>":                alt(a, seq(b, c)),
		"(<a>|<b>)/<c>":              seq(alt(a, b), c),
		"<a>*+?":                     maybe(plus(star(a))),
		"<a> * +  ? ":                maybe(plus(star(a))),
		"^<a>*":                      star(back(a)),
		"^(<a>*)":                    back(star(a)),
		"^^<a>":                      back(back(a)),
		" ^ ^ <a>":                   back(back(a)),
		"<a>/<b>*":                   seq(a, star(b)),
		"(<a>/<b>)*":                 star(seq(a, b)),
		"^<a>/<b>":                   seq(back(a), b),
		"^(<a>/<b>)+":                plus(back(seq(a, b))),
		"!<a>":                       not("a"),
		"! <a>":                      not("a"),
		"!(<a>)":                     not("a"),
		"!( <a> | <b> |<c>) ":        not("a", "b", "c"),
		"!<a>*":                      star(not("a")),
		"^!(<a>|<b>)?":               maybe(back(not("a", "b"))),
		"!(<a>|<b>|<c>|<a>|<a>|<b>)": not("a", "b", "c", "a", "a", "b"),
		"!<a>|<b>":                   alt(not("a"), b),
		"!<a>/!(<b>)":                seq(not("a"), not("b")),
		"<http://x/y#z>":             iri("http://x/y#z"),
		"<é()*!/>":                   iri("é()*!/"),
		"(((((<a>)))))":              a,
		"^^^^^<a>":                   back(back(back(back(back(a))))),
		"^(^(^<a>))/((((!(<b>)))))":  seq(back(back(back(a))), not("b")),
	} {
		p, n, no := Path(s)
		if !SamePath(p, want) || n != len(s) || no != api.OK {
			t.Errorf("%s: %+v %d %v", s, p, n, no)
		}
	}
}

// P12.1
func TestPathForm(t *testing.T) {
	for s, place := range map[string]int{
		"": 0, " ": 1, "   ": 3, "a": 0, " a": 1, "<": 0, "<a": 0, " <a": 1, "<>": 0, "<a b>": 0, "<a<>": 0, "<a>>": 3, "<\xff>": 0, "<^>": 0, "<{>": 0,
		"<" + strings.Repeat("a", 61) + ">": 0, "<a>/<" + strings.Repeat("a", 61) + ">": 4,
		"<a>/": 4, "<a>/ ": 5, "<a>|": 4, "<a>//<b>": 4, "<a>/|<b>": 4, "<a>|/<b>": 4, "<a>||<b>": 4, "<a> / <b": 6, "<a><b>": 3, "<a> <b>": 4, "<a>(<b>)": 3, "<a>!<b>": 3, "<a>^<b>": 3,
		"*": 0, "*<a>": 0, "<a>/*": 4, "^": 1, "^ ": 2, "^*": 1, "^)": 1, "(": 1, "( ": 2, "()": 1, ")": 0, "(<a>": 4, "(<a> ": 5, "(<a>))": 5, "(<a>|": 5, "(<a>]": 4, "(<a>/)": 5,
		"!": 1, "! ": 2, "!a": 1, "!^<a>": 1, "!!<a>": 1, "! (<a>)": 2, "!()": 2, "!(": 2, "!( ": 3, "!(<a>": 5, "!(<a>|": 6, "!(<a>|)": 6, "!(<a>/<b>)": 5, "!(<a>*)": 5, "!(^<a>)": 2, "!((<a>))": 2,
		"!(<a> <b>)": 6, "!(<a>|!<b>)": 6, "!(<>)": 2, "!( <": 3, "!<": 1,
		"\t<a>": 0, "<a>\t": 3, "<a>\n": 3, "<a>\x00": 3, "\x00": 0, "<a>é": 3, "\xff": 0, "<a>\u00a0": 3, "<a>*x": 4, "<a>* x": 5, "(((((<a>(": 8, "(((((<a>^": 8, "^^^^^<a>^": 8,
		"(((((x": 5, "(((((<a": 5, "^^^^^": 5, strings.Repeat(" ", api.MaxQuery): api.MaxQuery,
	} {
		if p, n, no := Path(s); !SamePath(p, api.Path{}) || n != place || no != api.ErrForm {
			t.Errorf("%q: %+v %d %v", s, p, n, no)
		}
	}
}

// P12.1
func TestPathLimits(t *testing.T) {
	for s, place := range map[string]int{
		"((((((<a>))))))": 5, "^^^^^^<a>": 5, "((((((": 5, " ( ( ( ( ( (": 11, "(((((^<a>)))))": 5, "^^^^^(<a>)": 5, "^(^(^(<a>)))": 5, "<a>/(((((<b>/(<c>))))))": 13,
		"<a>*/((((( ^": 11, "((((((x": 5, "^^^^^ (": 6, "(((((<a>|(": 9, strings.Repeat("(", api.MaxQuery): 5, strings.Repeat("^", api.MaxQuery): 5,
	} {
		if p, n, no := Path(s); !SamePath(p, api.Path{}) || n != place || no != api.ErrFull {
			t.Errorf("%q: %+v %d %v", s, p, n, no)
		}
	}
	long := "<a>" + strings.Repeat("*", api.MaxQuery-3)
	if p, n, no := Path(long); !SamePath(p, deep(api.MaxQuery-3, iri("a"))) || n != api.MaxQuery || no != api.OK || IsPath(p) {
		t.Error("just as long", n, no)
	}
	for _, s := range []string{long + "*", long + " ", strings.Repeat("(", api.MaxQuery+1), strings.Repeat("\xff", 1<<20)} {
		if p, n, no := Path(s); !SamePath(p, api.Path{}) || n != 0 || no != api.ErrLong {
			t.Error("too long", n, no)
		}
	}
}

func pathsThatMayBe() []api.Path {
	a, b := iri("a"), iri("b")
	return []api.Path{
		a, iri("http://x/é"), iri(strings.Repeat("a", 60)), not("a"), not("a", "b", "c", "a"), back(a), star(a), plus(a), maybe(a), seq(a, b), alt(a, b),
		star(plus(maybe(back(a)))), seq(seq(a, b), seq(b, a)), alt(alt(a, b), alt(b, a)), seq(alt(a, b), star(seq(not("a"), b))), back(seq(not("a", "b"), back(a))),
		star(not("a")), back(not("a")), alt(not("a"), not("b")), deep(api.MaxDeep, a), deep(api.MaxDeep, not("a")), full(29), star(full(29)), wide(3),
		back(back(a)),
	}
}

func pathsThatMayNotBe() []api.Path {
	a := iri("a")
	return []api.Path{
		{}, {Kind: -1}, {Kind: 9}, {Kind: 1 << 62}, {Kind: -1 << 63, Kids: []api.Path{a}}, iri(""), iri("a b"), iri("\xff"), iri(strings.Repeat("a", 61)), not(), not(""), not("a b"), not("a", "b", "c", "d", "e"), not("a", ""),
		{Kind: api.PathIRI, Text: "a", Texts: []string{"a"}}, {Kind: api.PathIRI, Text: "a", Kids: []api.Path{a}}, {Kind: api.PathNot, Text: "a", Texts: []string{"a"}}, {Kind: api.PathNot, Texts: []string{"a"}, Kids: []api.Path{a}},
		{Kind: api.PathBack}, {Kind: api.PathStar}, {Kind: api.PathPlus, Kids: []api.Path{a, a}}, {Kind: api.PathMaybe, Kids: []api.Path{{}}}, {Kind: api.PathSeq, Kids: []api.Path{a}}, {Kind: api.PathAlt, Kids: []api.Path{a, a, a}},
		{Kind: api.PathStar, Text: "a", Kids: []api.Path{a}}, {Kind: api.PathStar, Texts: []string{"a"}, Kids: []api.Path{a}}, {Kind: api.PathSeq, Text: "a", Kids: []api.Path{a, a}},
		seq(a, iri("")), seq(iri(""), a), star(star(star(not()))), deep(api.MaxDeep+1, a), deep(1<<16, a), seq(a, deep(api.MaxDeep, a)), full(31), alt(full(29), a), wide(5), wide(60),
		round(api.PathStar), round(api.PathSeq), round(api.PathBack), seq(a, round(api.PathAlt)), not(make([]string, 1<<20)...),
	}
}

// P12.2
func TestIsPath(t *testing.T) {
	for _, p := range pathsThatMayBe() {
		if !IsPath(p) {
			t.Errorf("%+v", p)
		}
	}
	for i, p := range pathsThatMayNotBe() {
		if IsPath(p) {
			t.Error(i, p.Kind)
		}
		Show(p)
	}
	empty := api.Path{Kind: api.PathIRI, Text: "a", Texts: []string{}, Kids: []api.Path{}}
	if !IsPath(empty) || !SamePath(empty, iri("a")) || Show(empty) != "<a>" {
		t.Error("nil lists and empty ones")
	}
	// 30 paths in all: a star around a sequence of 29.
	if p := star(full(29)); !IsPath(p) || IsPath(seq(full(29), iri("a"))) {
		t.Error("30")
	}
}

// P12.2
func TestShow(t *testing.T) {
	a, b := iri("a"), iri("b")
	for want, p := range map[string]api.Path{
		"<a>": a, "^<a>": back(a), "<a>/<b>": seq(a, b), "<a>|<b>": alt(a, b), "<a>*": star(a), "<a>+": plus(a), "<a>?": maybe(a), "!(<a>)": not("a"), "!(<a>|<b>|<a>)": not("a", "b", "a"),
		"(!(<a>))*": star(not("a")), "^(^<a>)": back(back(a)), "(<a>/<b>)/<a>": seq(seq(a, b), a), "<a>/(<b>|<a>)": seq(a, alt(b, a)), "((<a>*)+)?": maybe(plus(star(a))), "^(<a>*)": back(star(a)),
		"(!(<a>|<b>))|(^<a>)": alt(not("a", "b"), back(a)),
	} {
		if Show(p) != want {
			t.Error(want, Show(p))
		}
	}
}

// P12.2
func TestSamePath(t *testing.T) {
	all := append(pathsThatMayBe(), pathsThatMayNotBe()[:30]...)
	for i, a := range all {
		for j, b := range all {
			if SamePath(a, b) != (i == j) {
				t.Errorf("%+v %+v", a, b)
			}
		}
	}
	if SamePath(not("a", "b"), not("b", "a")) || SamePath(not("a"), not("a", "a")) || SamePath(seq(iri("a"), iri("b")), seq(iri("b"), iri("a"))) {
		t.Error("order")
	}
	if !SamePath(deep(1<<16, iri("a")), deep(1<<16, iri("a"))) || SamePath(deep(1<<16, iri("a")), deep(1<<16, iri("b"))) {
		t.Error("deep")
	}
	if !SamePath(wide(60), wide(60)) || SamePath(wide(60), wide(59)) {
		t.Error("wide")
	}
	if !SamePath(round(api.PathSeq), round(api.PathSeq)) || SamePath(round(api.PathSeq), round(api.PathAlt)) || SamePath(round(api.PathStar), deep(9, iri("a"))) {
		t.Error("round")
	}
}

// P12.4
func TestPathOfShow(t *testing.T) {
	for _, p := range pathsThatMayBe() {
		s := Show(p)
		got, n, no := Path(s)
		switch {
		case len(s) > api.MaxQuery:
			if no != api.ErrLong {
				t.Error(s, no)
			}
		case no != api.OK || n != len(s) || !SamePath(got, p):
			t.Error(s, n, no)
		}
	}
}

// P12.4
func TestPathsAreNew(t *testing.T) {
	first, _, _ := Path("!(<a>|<b>)/<c>")
	clear(first.Kids[0].Texts[:cap(first.Kids[0].Texts)])
	clear(first.Kids[:cap(first.Kids)])
	if again, _, _ := Path("!(<a>|<b>)/<c>"); !SamePath(again, seq(not("a", "b"), iri("c"))) {
		t.Error("shared")
	}
	room := []string{"a", "b", "c"}
	p := star(not(room[:2]...))
	if !IsPath(p) || Show(p) != "(!(<a>|<b>))*" || !slices.Equal(room, []string{"a", "b", "c"}) {
		t.Error("changed")
	}
}
