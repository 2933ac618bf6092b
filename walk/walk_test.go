package walk

import (
	"math"
	"slices"
	"strconv"
	"strings"
	"testing"

	"trivium/api"
	"trivium/query"
	"trivium/store"
)

func load(t *testing.T, s string) *store.Store {
	t.Helper()
	made, _, no := store.Load(s)
	if no != api.OK {
		t.Fatal(s, no)
	}
	return made
}

func path(t *testing.T, s string) api.Path {
	t.Helper()
	p, _, no := query.Path(s)
	if no != api.OK {
		t.Fatal(s, no)
	}
	return p
}

func node(s *store.Store, name string) int {
	return s.ID(api.Term{Kind: api.IRI, Text: name})
}

// names is the IRIs of nodes.
func names(s *store.Store, l []int) string {
	var all []string
	for _, id := range l {
		t, _ := s.Term(id)
		all = append(all, t.Text)
	}
	return strings.Join(all, " ")
}

// P14.1
func TestFromAndTo(t *testing.T) {
	round := load(t, "<a><p><b>.\n<b><p><a>.")
	tree := load(t, "<a><p><b>.\n<b><p><c>.\n<c><q><d>.\n<a><q><e>.\n<e><p><a>.\n<c><r>\"c\".")
	for _, x := range []struct {
		s        *store.Store
		path     string
		node     string
		from, to string
	}{
		{round, "<p>+", "a", "a b", "a b"}, {round, "<p>", "a", "b", "b"}, {round, "<p>*", "p", "p", "p"}, {round, "<p>+", "p", "", ""}, {round, "<p>/<p>", "a", "a", "a"},
		{round, "<x>", "a", "", ""}, {round, "<x>*", "a", "a", "a"}, {round, "!<x>", "a", "b", "b"}, {round, "!<p>", "a", "", ""}, {round, "<p>|^<p>", "b", "a", "a"},
		{tree, "<p>", "b", "c", "a"}, {tree, "^<p>", "b", "a", "c"}, {tree, "<p>*", "b", "b c", "a b e"}, {tree, "<p>+/<q>", "a", "d", ""}, {tree, "<p>+/<q>", "d", "", "a b e"},
		{tree, "<p>*/<q>?", "b", "b c d", "a b e"}, {tree, "!(<q>|<r>)", "a", "b", "e"}, {tree, "!(<p>|<x>)", "c", "c d", ""}, {tree, "^!<p>", "d", "c", ""}, {tree, "^!<p>", "c", "", "c d"},
		{tree, "(<p>|<q>|<r>)+", "c", "c d", "a b e"}, {tree, "^(<p>/<q>)", "d", "b", ""}, {tree, "^(<p>/<q>)", "b", "", "d"}, {tree, "<p>/^<p>", "a", "a", "a"}, {tree, "(<p>/<p>)*", "a", "a c", "a"},
	} {
		from, no := From(x.s, path(t, x.path), node(x.s, x.node))
		to, no2 := To(x.s, path(t, x.path), node(x.s, x.node))
		// A literal stands ahead of all IRIs, so that names rise with numbers.
		if no != api.OK || no2 != api.OK || names(x.s, from) != x.from || names(x.s, to) != x.to {
			t.Error(x.path, x.node, names(x.s, from), "-", names(x.s, to), no, no2)
		}
	}
}

// model is what P14.1 says, as a table of pairs, worked out from the path itself and not from an automaton.
func model(s *store.Store, p api.Path) [][]bool {
	n := len(s.Terms()) + 1
	has := table(n)
	kid := func(i int) [][]bool { return model(s, p.Kids[i]) }
	switch p.Kind {
	case api.PathIRI, api.PathNot:
		for _, x := range s.Triples() {
			if p.Kind == api.PathIRI && x.P.Text == p.Text || p.Kind == api.PathNot && !slices.Contains(p.Texts, x.P.Text) {
				has[s.ID(x.S)][s.ID(x.O)] = true
			}
		}
	case api.PathBack:
		each(kid(0), func(i, j int) { has[j][i] = true })
	case api.PathSeq:
		has = product(kid(0), kid(1))
	case api.PathAlt:
		each(kid(0), func(i, j int) { has[i][j] = true })
		each(kid(1), func(i, j int) { has[i][j] = true })
	default:
		has = kid(0)
		for range n {
			if p.Kind != api.PathMaybe {
				each(product(has, has), func(i, j int) { has[i][j] = true })
			}
		}
		for i := 1; i < n && p.Kind != api.PathPlus; i++ {
			has[i][i] = true
		}
	}
	return has
}

func table(n int) [][]bool {
	l := make([][]bool, n)
	for i := range l {
		l[i] = make([]bool, n)
	}
	return l
}

func each(l [][]bool, see func(i, j int)) {
	for i := range l {
		for j := range l {
			if l[i][j] {
				see(i, j)
			}
		}
	}
}

func product(a, b [][]bool) [][]bool {
	l := table(len(a))
	each(a, func(i, j int) {
		for k := range b {
			l[i][k] = l[i][k] || b[j][k]
		}
	})
	return l
}

func paths() []string {
	return []string{
		"<a>", "<b>*", "^<a>", "!<a>", "!(<a>|<c>)", "^!(<b>)", "<a>/<b>", "<a>|^<b>", "(<a>/<b>)+", "(<a>|<b>)*/<c>", "^(<a>/<b>*)", "(!<a>)+", "<a>?/<b>?", "(^<a>/<b>)*", "((<a>|^<a>)/!<a>)+",
		"(<a>?)+", "^((<a>/^<b>)?)", "<x>", "<x>*", "!<x>", "(!<x>|^!<x>)*",
	}
}

// P14.1
func TestAgainstModel(t *testing.T) {
	seed := uint32(11)
	for round := range 12 {
		var text strings.Builder
		for range round * 3 {
			for i := range 3 {
				seed = seed*1664525 + 1013904223
				text.WriteString("<" + string("abcdefgh"[seed>>20%uint32(3+i/2*5)]) + ">")
			}
			text.WriteString(".\n")
		}
		s := load(t, text.String())
		n := len(s.Terms()) + 1
		for _, shown := range paths() {
			p := path(t, shown)
			want := model(s, p)
			var pairs [][2]int
			each(want, func(i, j int) { pairs = append(pairs, [2]int{i, j}) })
			if got, no := Pairs(s, p); no != api.OK || !slices.Equal(got, pairs) {
				t.Fatal(text.String(), shown, got, pairs)
			}
			for i := range n {
				var from, to []int
				for j := range n {
					if has, no := Has(s, p, i, j); no != api.OK || has != want[i][j] {
						t.Fatal(text.String(), shown, i, j, has)
					}
					if want[i][j] {
						from = append(from, j)
					}
					if want[j][i] {
						to = append(to, j)
					}
				}
				gotFrom, no := From(s, p, i)
				gotTo, no2 := To(s, p, i)
				if no != api.OK || no2 != api.OK || !slices.Equal(gotFrom, from) || !slices.Equal(gotTo, to) {
					t.Fatal(text.String(), shown, i, gotFrom, gotTo)
				}
			}
		}
	}
}

// P14.1
func TestWrong(t *testing.T) {
	s := load(t, "<a><p><b>.")
	round := make([]api.Path, 1)
	round[0] = api.Path{Kind: api.PathStar, Kids: round}
	good := path(t, "<p>*")
	big := "<p>"
	for range 3 {
		big = "(" + big + "|" + big + ")"
	}
	big = "((" + big + "|" + big + "))*" // 16 places are one too many, so two of them are left out
	big = strings.Replace(big, "(<p>|<p>)", "<p>", 2)
	for i, x := range []struct {
		s  *store.Store
		p  api.Path
		no api.Errno
	}{
		{nil, good, api.ErrArg}, {nil, api.Path{}, api.ErrArg}, {nil, path(t, big), api.ErrArg}, {s, api.Path{}, api.ErrArg}, {s, round[0], api.ErrArg}, {s, path(t, "<p>******"), api.ErrArg},
		{s, path(t, big), api.ErrFull},
	} {
		for _, node := range []int{1, 0, -1, 99} {
			from, no := From(x.s, x.p, node)
			to, no2 := To(x.s, x.p, node)
			has, no3 := Has(x.s, x.p, node, node)
			if from != nil || to != nil || has || no != x.no || no2 != x.no || no3 != x.no {
				t.Error(i, from, to, has, no, no2, no3)
			}
		}
		if l, no := Pairs(x.s, x.p); l != nil || no != x.no {
			t.Error(i, l, no)
		}
	}
	for _, p := range []api.Path{good, path(t, "<p>"), path(t, "!<x>")} {
		for _, node := range []int{math.MinInt, -1, 0, 4, math.MaxInt} {
			from, no := From(s, p, node)
			to, no2 := To(s, p, node)
			has, no3 := Has(s, p, node, node)
			one, no4 := Has(s, p, node, 1)
			other, no5 := Has(s, p, 1, node)
			if len(from)+len(to) != 0 || has || one || other || no+no2+no3+no4+no5 != api.OK {
				t.Error(node, from, to, has, one, other)
			}
		}
	}
	for _, s := range []*store.Store{load(t, ""), {}} {
		if l, no := Pairs(s, good); len(l) != 0 || no != api.OK {
			t.Error(l, no)
		}
		if l, no := From(s, good, 1); len(l) != 0 || no != api.OK {
			t.Error(l, no)
		}
	}
}

// P14.2, P0.4
func TestRounds(t *testing.T) {
	var text strings.Builder
	for i := range api.MaxTriples {
		text.WriteString("<" + strconv.Itoa(i) + "><p><" + strconv.Itoa((i+1)%api.MaxTriples) + ">.\n")
	}
	s := load(t, text.String())
	p := path(t, "((<p>|^<p>)*/((<p>*)+)*)+")
	before := s.Encode()
	l, no := Pairs(s, p)
	if no != api.OK || len(l) != api.MaxTriples*api.MaxTriples+1 {
		t.Error(len(l), no)
	}
	if !query.SamePath(p, path(t, "((<p>|^<p>)*/((<p>*)+)*)+")) || !slices.Equal(s.Encode(), before) {
		t.Error("changed")
	}
	l[0] = [2]int{}
	if again, _ := Pairs(s, p); again[0] == l[0] {
		t.Error("shared")
	}
}
