package auto

import (
	"math"
	"slices"
	"strings"
	"testing"

	"trivium/api"
	"trivium/query"
)

func path(t *testing.T, s string) api.Path {
	t.Helper()
	p, _, no := query.Path(s)
	if no != api.OK {
		t.Fatal(s, no)
	}
	return p
}

func made(t *testing.T, s string) *Auto {
	t.Helper()
	a, no := New(path(t, s))
	if no != api.OK {
		t.Fatal(s, no)
	}
	return a
}

// shown is steps in short: from>to, ^ for Back, ! for Not, and what they go along.
func shown(l []api.Step) string {
	var b strings.Builder
	for _, step := range l {
		b.WriteString(" " + string(rune('0'+step.From)) + ">" + string(rune('0'+step.To)))
		if step.Back {
			b.WriteString("^")
		}
		if step.Not {
			b.WriteString("!")
		}
		b.WriteString(strings.Join(step.Texts, "|"))
	}
	return strings.TrimSpace(b.String())
}

func lasts(a *Auto) string {
	s := ""
	for place := range a.Places() {
		if a.Last(place) {
			s += string(rune('0' + place))
		}
	}
	return s
}

// P13.1
func TestSteps(t *testing.T) {
	for _, x := range []struct {
		path   string
		places int
		steps  string
		lasts  string
	}{
		{"<a>", 2, "0>1a", "1"},
		{"!<a>", 2, "0>1!a", "1"},
		{"!(<b>|<a>|<b>)", 2, "0>1!b|a|b", "1"},
		{"<a>*", 2, "0>1a 1>1a", "01"},
		{"<a>+", 2, "0>1a 1>1a", "1"},
		{"<a>?", 2, "0>1a", "01"},
		{"<a>*+?", 2, "0>1a 1>1a", "01"},
		{"(<a>?)+", 2, "0>1a 1>1a", "01"},
		{"<a>/<b>", 3, "0>1a 1>2b", "2"},
		{"<a>|<b>", 3, "0>1a 0>2b", "12"},
		{"<a>?/<b>", 3, "0>1a 0>2b 1>2b", "2"},
		{"<a>/<b>?", 3, "0>1a 1>2b", "12"},
		{"<a>*/<b>*", 3, "0>1a 0>2b 1>1a 1>2b 2>2b", "012"},
		{"(<a>/<b>)*", 3, "0>1a 1>2b 2>1a", "02"},
		{"(<a>|<b>)+", 3, "0>1a 0>2b 1>1a 1>2b 2>1a 2>2b", "12"},
		{"(<a>/<b>)|<c>", 4, "0>1a 0>3c 1>2b", "23"},
		{"<a>/<b>/<c>", 4, "0>1a 1>2b 2>3c", "3"},
		{"<a>?|<b>", 3, "0>1a 0>2b", "012"},
		{"<a>|<b>*", 3, "0>1a 0>2b 2>2b", "012"},
		{"(<a>?|<b>)/<c>", 4, "0>1a 0>2b 0>3c 1>3c 2>3c", "3"},
		{"^<a>", 2, "0>1^a", "1"},
		{"^^<a>", 2, "0>1a", "1"},
		{"^!(<a>|<b>)", 2, "0>1^!a|b", "1"},
		{"^(<a>/<b>)", 3, "0>1^b 1>2^a", "2"},
		{"^(<a>/<b>/<c>)", 4, "0>1^c 1>2^b 2>3^a", "3"},
		{"^(<a>/^(<b>/<c>))", 4, "0>1b 1>2c 2>3^a", "3"},
		{"^(<a>|<b>)", 3, "0>1^a 0>2^b", "12"},
		{"^(<a>*/<b>?)", 3, "0>1^b 0>2^a 1>2^a 2>2^a", "012"},
		{"^((<a>/<b>)+)", 3, "0>1^b 1>2^a 2>1^b", "2"},
		{"^((<a>/<b>)|(<c>/!<d>))", 5, "0>1^b 0>3^!d 1>2^a 3>4^c", "24"},
		{"^(^(<a>/<b>))", 3, "0>1a 1>2b", "2"},
		{"((<a>/<b>)*)*", 3, "0>1a 1>2b 2>1a", "02"},
	} {
		a := made(t, x.path)
		if a.Places() != x.places || shown(a.Steps()) != x.steps || lasts(a) != x.lasts {
			t.Error(x.path, a.Places(), shown(a.Steps()), lasts(a))
		}
		for _, place := range []int{math.MinInt, -1, x.places, 31, 32, 64, math.MaxInt} {
			if a.Last(place) {
				t.Error(x.path, place)
			}
		}
	}
}

// alternatives is n of them, in little depth.
func alternatives(n int) string {
	if n == 1 {
		return "<a>"
	}
	return "(" + alternatives(n/2) + "|" + alternatives(n-n/2) + ")"
}

// P13.1
func TestNewRefuses(t *testing.T) {
	round := make([]api.Path, 1)
	round[0] = api.Path{Kind: api.PathStar, Kids: round}
	for _, p := range []api.Path{
		{}, {Kind: 9, Text: "a"}, {Kind: api.PathIRI}, {Kind: api.PathNot}, {Kind: api.PathStar}, round[0], path(t, "<a>******"), path(t, "!(<a>|<a>|<a>|<a>|<a>)"),
		path(t, alternatives(16)),
	} {
		if a, no := New(p); a != nil || no != api.ErrArg {
			t.Errorf("%+v %v", p.Kind, no)
		}
	}
	twelve := "(" + alternatives(8) + "|(" + alternatives(4) + "|"
	// No path that may be has just MaxSteps steps, or up to nine more: the nearest are 199 and 210.
	near := "((<a>|(<a>|<a>))|(<a>*/(<a>|<a>)))|" + alternatives(8)
	for s, steps := range map[string]int{"(" + near + ")*": 199, alternatives(13) + "*": 182, twelve + "(<a>*/<b>)))*": 198, twelve + "((<a>|<b>)/<c>)))*": 198, alternatives(15): 15} {
		if a := made(t, s); len(a.Steps()) != steps {
			t.Error(s, len(a.Steps()))
		}
	}
	for _, s := range []string{alternatives(14) + "*", alternatives(14) + "+", alternatives(15) + "*", twelve + "(<a>?/<b>?)))*"} {
		if a, no := New(path(t, s)); a != nil || no != api.ErrFull {
			t.Error(s, no)
		}
	}
}

// step is a step of a word: a text, with a ^ ahead of it for Back.
func step(s string) api.Step {
	text, back := strings.CutPrefix(s, "^")
	return api.Step{Back: back, Texts: []string{text}}
}

// has tells by the words alone whether p has w.
func has(p api.Path, w []api.Step) bool {
	switch p.Kind {
	case api.PathIRI:
		return len(w) == 1 && !w[0].Back && w[0].Texts[0] == p.Text
	case api.PathNot:
		return len(w) == 1 && !w[0].Back && !slices.Contains(p.Texts, w[0].Texts[0])
	case api.PathBack:
		l := slices.Clone(w)
		slices.Reverse(l)
		for i := range l {
			l[i].Back = !l[i].Back
		}
		return has(p.Kids[0], l)
	case api.PathSeq:
		for i := range len(w) + 1 {
			if has(p.Kids[0], w[:i]) && has(p.Kids[1], w[i:]) {
				return true
			}
		}
		return false
	case api.PathAlt:
		return has(p.Kids[0], w) || has(p.Kids[1], w)
	case api.PathMaybe:
		return len(w) == 0 || has(p.Kids[0], w)
	case api.PathPlus:
		if has(p.Kids[0], w) {
			return true
		}
	}
	// A star, or a plus of more words than one; words of no steps change nothing.
	if len(w) == 0 {
		return p.Kind == api.PathStar
	}
	for i := 1; i < len(w)+1; i++ {
		if has(p.Kids[0], w[:i]) && has(api.Path{Kind: api.PathStar, Kids: p.Kids}, w[i:]) {
			return true
		}
	}
	return false
}

// words is all words of at most n steps along a few predicates.
func words(n int) [][]api.Step {
	all := [][]api.Step{nil}
	last := all
	for range n {
		var next [][]api.Step
		for _, w := range last {
			for _, s := range []string{"a", "^a", "b", "^b", "other"} {
				next = append(next, append(slices.Clone(w), step(s)))
			}
		}
		all = append(all, next...)
		last = next
	}
	return all
}

// P13.2
func TestTakes(t *testing.T) {
	all := words(4)
	for _, s := range []string{
		"<a>", "!<a>", "!(<a>|<b>)", "<a>*", "<a>+", "<a>?", "<a>/<b>", "<a>|<b>", "^<a>", "^^<a>", "^!<a>", "(<a>/<b>)*", "^((<a>/<b>)*/<a>)", "(<a>?/<b>?)+", "(<a>*/^<b>)+/<a>",
		"^(<a>/^(<b>/!<a>))", "(<a>|<b>/<a>)*", "(<a>|^<a>)*", "<a>/<a>/<a>", "(<a>?)*/<b>", "^(<a>?/(<b>|^<a>)+)", "(!<a>/!<b>)?", "((<a>*)+)?", "(<a>+/<b>+)+", "<a>?/<a>?/<a>?", "<a>?|<b>", "(<a>|<b>*)/<a>",
	} {
		p := path(t, s)
		a := made(t, s)
		for _, w := range all {
			if a.Takes(w) != has(p, w) {
				t.Error(s, shown(w), a.Takes(w))
			}
		}
	}
}

// P13.2
func TestTakesOdd(t *testing.T) {
	a := made(t, "<a>/!<b>")
	w := []api.Step{{From: 7, To: -3, Not: true, Texts: []string{"a"}}, {From: 9, Not: true, Texts: []string{"c"}}}
	if !a.Takes(w) || w[0].From != 7 || w[1].Texts[0] != "c" {
		t.Error("From, To and Not are not looked at")
	}
	for _, w := range [][]api.Step{{{}}, {{Texts: []string{}}}, {step("a"), {}}, {step("a"), {Texts: make([]string, 1<<16)}}, make([]api.Step, 1<<16)} {
		a.Takes(w)
	}
	long := slices.Repeat([]api.Step{step("a")}, 1<<16)
	if a.Takes(long) || !made(t, "<a>*").Takes(long) || made(t, "<a>*").Takes(append(long, step("b"))) {
		t.Error("long")
	}
}

// P13.3
func TestNothingShared(t *testing.T) {
	p := path(t, "!(<a>|<b>)*")
	a, _ := New(p)
	p.Kids[0].Texts[0] = "z"
	l := a.Steps()
	if shown(l) != "0>1!a|b 1>1!a|b" {
		t.Error("kept", shown(l))
	}
	clear(l[0].Texts[:cap(l[0].Texts)])
	if shown(l[1:]) != "1>1!a|b" {
		t.Error("two lists share")
	}
	clear(l[1].Texts)
	clear(l[:cap(l)])
	if shown(a.Steps()) != "0>1!a|b 1>1!a|b" || !a.Takes([]api.Step{step("c")}) || a.Takes([]api.Step{step("a")}) {
		t.Error("shared")
	}
}

// P13.3
func TestNil(t *testing.T) {
	var none *Auto
	for _, a := range []*Auto{none, {}} {
		if a.Places() != 0 || len(a.Steps()) != 0 || a.Last(0) || a.Last(1) || a.Last(-1) || a.Takes(nil) || a.Takes([]api.Step{step("a")}) {
			t.Error("nil")
		}
	}
}
