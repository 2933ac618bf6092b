package lines

import (
	"math"
	"slices"
	"strconv"
	"strings"
	"testing"

	"trivium/api"
	"trivium/term"
)

func iri(s string) api.Term         { return api.Term{Kind: api.IRI, Text: s} }
func blank(s string) api.Term       { return api.Term{Kind: api.Blank, Text: s} }
func plain(s string) api.Term       { return api.Term{Kind: api.Plain, Text: s} }
func lang(s, extra string) api.Term { return api.Term{Kind: api.Lang, Text: s, Extra: extra} }
func typed(s, kind string) api.Term { return api.Term{Kind: api.Typed, Text: s, Extra: kind} }

func abc(o api.Term) api.Triple { return api.Triple{S: iri("a"), P: iri("b"), O: o} }

// P5.1
func TestIs(t *testing.T) {
	for _, x := range []struct {
		t    api.Triple
		want bool
	}{
		{abc(iri("c")), true}, {abc(blank("c")), true}, {abc(plain("")), true}, {abc(lang("c", "en")), true}, {abc(typed("c", "d")), true},
		{api.Triple{S: blank("a"), P: iri("b"), O: blank("a")}, true},
		{api.Triple{}, false}, {abc(api.Term{}), false}, {abc(iri("")), false}, {abc(lang("c", "EN")), false}, {abc(api.Term{Kind: 6, Text: "c"}), false},
		{api.Triple{S: plain("a"), P: iri("b"), O: iri("c")}, false}, {api.Triple{S: iri("a"), P: blank("b"), O: iri("c")}, false},
		{api.Triple{S: iri("a"), P: plain("b"), O: iri("c")}, false}, {api.Triple{S: iri("a b"), P: iri("b"), O: iri("c")}, false},
		{api.Triple{S: iri("a"), P: iri("\xff"), O: iri("c")}, false}, {api.Triple{S: blank(""), P: iri("b"), O: iri("c")}, false},
		{api.Triple{S: api.Term{Kind: math.MinInt}, P: iri("b"), O: iri("c")}, false},
		{api.Triple{S: lang("a", "en"), P: iri("b"), O: iri("c")}, false}, {api.Triple{S: typed("a", "b"), P: iri("b"), O: iri("c")}, false},
	} {
		if Is(x.t) != x.want {
			t.Errorf("%+v", x.t)
		}
	}
}

// P5.1
func TestOne(t *testing.T) {
	long := strings.Repeat("x", 30)
	for s, want := range map[string]api.Triple{
		`<a><b>"c".`:                                    abc(plain("c")),
		" \t<a> \t<b>\t \"c\" \t. \t":                   abc(plain("c")),
		`<a><b><c>.#d`:                                  abc(iri("c")),
		`<a> <b> <c> . # <d> .`:                         abc(iri("c")),
		"<a><b><c>.#\n\r\x00":                           abc(iri("c")),
		`_:a<b>_:c.`:                                    {S: blank("a"), P: iri("b"), O: blank("c")},
		`_:A0z<b>_:01234567 .`:                          {S: blank("A0z"), P: iri("b"), O: blank("01234567")},
		`<a><b>"c"@en.`:                                 abc(lang("c", "en")),
		`<a><b>"c"@EN-uS-0Z .`:                          abc(lang("c", "en-us-0z")),
		`<a><b>"c"^^<d>.`:                               abc(typed("c", "d")),
		`<a><b>"c"^^<\u0064\U000000E9>.`:                abc(typed("c", "dé")),
		`<a><b>"".`:                                     abc(plain("")),
		`<a><b>"\"\\\n\r\t\b\f\'".`:                     abc(plain("\"\\\n\r\t\b\f'")),
		`<a><b>"\u0000\u00e9\u00E9\U0010FFFF".`:         abc(plain("\x00éé\U0010ffff")),
		`<a><b>"\u0041\U0000007f\uFFFD\uE000".`:         abc(plain("A\x7f\ufffd\ue000")),
		"<a><b>\"\x00\t\x0b\x0c\x7f'<>#é\".":            abc(plain("\x00\t\x0b\x0c\x7f'<>#é")),
		"<a><b>\"\u0085\u2028\ufffd\".":                 abc(plain("\u0085\u2028\ufffd")),
		`<\u0061><\U00000062><#>.`:                      {S: iri("a"), P: iri("b"), O: iri("#")},
		`<é><b><\u00a0>.`:                               {S: iri("é"), P: iri("b"), O: iri("\u00a0")},
		`<a><b>"` + long + `".`:                         abc(plain(long)),
		`<a><b>"\u00e9` + long[2:] + `".`:               abc(plain("é" + long[2:])),
		`<` + long + long + `><b><c>.`:                  {S: iri(long + long), P: iri("b"), O: iri("c")},
		`<` + strings.Repeat(`\u0061`, 60) + `><b><c>.`: {S: iri(strings.Repeat("a", 60)), P: iri("b"), O: iri("c")},
	} {
		if got, has, ok := One(s); got != want || !has || !ok {
			t.Errorf("%q: %+v %v %v", s, got, has, ok)
		}
	}
	for _, s := range []string{"", " ", "\t", " \t ", "#", "# a", " \t#", "#\n", "#<a><b><c>.", "##", "#\r", "#é\x00"} {
		if got, has, ok := One(s); got != (api.Triple{}) || has || !ok {
			t.Errorf("%q: %+v %v %v", s, got, has, ok)
		}
	}
}

// P5.1
func TestOneRefuses(t *testing.T) {
	long := strings.Repeat("x", 31)
	for _, s := range []string{
		"\n", "\r", "<a><b><c>.\n", "<a><b><c>.\r", "\n<a><b><c>.", "<a>\n<b><c>.", "\v", "\u00a0", "\ufeff<a><b><c>.",
		".", "<a>", "<a>.", "<a><b>", "<a><b>.", "<a><b><c>", "<a><b><c>#.", "<a><b><c>..", "<a><b><c>.x", "<a><b><c><d>.", "<a><b><c>.<a><b><c>.",
		"<a#><b>", "a b c.", "<a><b>c.", "<a><b>'c'.", `<a><b>"c`, `<a><b>"c.`, `<a><b>"c"".`, `<a><b>"c"d.`, `<a><b>"c"<d>.`,
		`"a"<b><c>.`, `<a>"b"<c>.`, `<a>_:b<c>.`, `"a"@en<b><c>.`, "_:<b><c>.", "_:123456789<b><c>.", "_:a_b<b><c>.", "_:é<b><c>.", "_ :a<b><c>.", "_: a<b><c>.", ":a<b><c>.",
		`_:\u0061<b><c>.`, "<><b><c>.", "<a b><b><c>.", "<a<><b><c>.", "<a", "<", "<a><b><c", "<a{><b><c>.", "<a\t><b><c>.", "<a\n><b><c>.", "<a\x7f><b><c>.", "<\u0080><b><c>.",
		`<a\u003e><b><c>.`, `<a\u0020><b><c>.`, `<a\u005c><b><c>.`, `<a\'><b><c>.`, `<a\n><b><c>.`, `<a\\><b><c>.`, `<a\><b><c>.`, `<a\u61><b><c>.`,
		`<a\ud800><b><c>.`, `<a\U00110000><b><c>.`,
		`<a><b>"\a".`, `<a><b>"\".`, `<a><b>"\`, `<a><b>"\u".`, `<a><b>"\u004".`, `<a><b>"\u004g".`, `<a><b>"\U0000004".`, `<a><b>"\U000000g0".`, `<a><b>"\u`, `<a><b>"\u0041`,
		`<a><b>"\ud800".`, `<a><b>"\udfff".`, `<a><b>"\uD83D\uDE00".`, `<a><b>"\U0000D800".`, `<a><b>"\U00110000".`, `<a><b>"\UFFFFFFFF".`, `<a><b>"\U80000041".`,
		`<a><b>"\u+041".`, `<a><b>"\u0_41".`, `<a><b>"\u0x41".`, `<a><b>"\N".`, `<a><b>"\ ".`, "<a><b>\"\n\".", "<a><b>\"\r\".", "<a><b>\"\\\n\".",
		`<a><b>"c"@.`, `<a><b>"c"@ en.`, `<a><b>"c" @en.`, `<a><b>"c"@en-.`, `<a><b>"c"@-en.`, `<a><b>"c"@e1.`, `<a><b>"c"@abcdefghi.`, `<a><b>"c"@en_us.`, `<a><b>"c"@en--us.`,
		`<a><b>"c"@abcdefgh-12345678.`, `<a><b>"c"@\u0065n.`, `<a><b>"c"@é.`, `<a><b>"c"@` + "\u212a.",
		`<a><b>"c"^<d>.`, `<a><b>"c"^^d.`, `<a><b>"c"^^ <d>.`, `<a><b>"c" ^^<d>.`, `<a><b>"c"^^<>.`, `<a><b>"c"^^<d e>.`, `<a><b>"c"^^<d`, `<a><b>"c"^^`, `<a><b>"c"@en^^<d>.`, `<a><b>"c"^^<d\'>.`, `<a><b>"c"@en`, `<a><b>_:c`, `<a><b>"c"@`, `<a><b>_:`, `<a><b>"c"^^_:d.`,
		`<a><b>"` + long + `".`, `<a><b>"\u00e9` + long[2:] + `".`, `<` + long + long + `><b><c>.`, `<a><b>"c"^^<` + long + long + `>.`,
		"\xff", "#\xff", "<a><b><c>.#\xff", "<\xff><b><c>.", "<a><b>\"\xc3\".", "<a><b>\"\xed\xa0\x80\".", " \xc0\x80",
		strings.Repeat("<", 1<<16), strings.Repeat(" ", 1<<16) + ".", `<a><b>"` + strings.Repeat("x", 1<<20) + `".`,
	} {
		if got, has, ok := One(s); got != (api.Triple{}) || has || ok {
			t.Errorf("%q: %+v %v %v", s, got, has, ok)
		}
	}
}

// P5.2
func TestParse(t *testing.T) {
	a, b, c := abc(iri("a")), abc(iri("b")), abc(iri("c"))
	for _, x := range []struct {
		s     string
		want  []api.Triple
		lines int
	}{
		{"", nil, 0}, {"\n", nil, 1}, {"\r\n", nil, 1}, {"\n\n", nil, 2}, {" ", nil, 1}, {"#", nil, 1}, {"\n#", nil, 2}, {"#\r", nil, 1}, {"#\r\r\n#", nil, 2},
		{"<a><b><c>.", []api.Triple{c}, 1}, {"<a><b><c>.\n", []api.Triple{c}, 1}, {"<a><b><c>.\r\n", []api.Triple{c}, 1}, {"<a><b><c>.\r\n ", []api.Triple{c}, 2},
		{"<a><b><c>.\n<a><b><a>.\n\n<a><b><b>.#", []api.Triple{a, b, c}, 4},
		{"<a><b><c>.\n <a> <b> <c> .\r\n<\\u0061><b><c>.", []api.Triple{c}, 3},
		{`<a><b>"x"@EN.` + "\n" + `<a><b>"\u0078"@en.`, []api.Triple{abc(lang("x", "en"))}, 2},
	} {
		if l, n, no := Parse(x.s); !slices.Equal(l, x.want) || n != x.lines || no != api.OK {
			t.Errorf("%q: %v %d %v", x.s, l, n, no)
		}
	}
}

// P5.2
func TestParseRefuses(t *testing.T) {
	for s, line := range map[string]int{
		"\r": 1, "\r\r\n": 1, "<a><b><c>.\r": 1, "\n\r": 2, "x": 1, "\nx\n": 2, "<a><b><c>.\n<a>\n<b><c>.\nx": 2, "#\n#\n\xff": 3,
		"<a><b>\"c\nd\".": 1, "<a><b><c>.\v\n": 1,
	} {
		if l, n, no := Parse(s); l != nil || n != line || no != api.ErrForm {
			t.Errorf("%q: %v %d %v", s, l, n, no)
		}
	}
}

// many is n lines, each of another triple.
func many(n int) string {
	var b strings.Builder
	for i := range n {
		b.WriteString("<a><b><" + strconv.Itoa(i) + ">.\n")
	}
	return b.String()
}

// P5.2
func TestParseLimits(t *testing.T) {
	same := "<a><b><c>.\n"
	for _, x := range []struct {
		s     string
		n     int
		lines int
		no    api.Errno
	}{
		{strings.Repeat("\n", api.MaxLines), 0, api.MaxLines, api.OK},
		{strings.Repeat("\n", api.MaxLines+1), 0, api.MaxLines + 1, api.ErrFull},
		{strings.Repeat("\n", api.MaxLines) + "x", 0, api.MaxLines + 1, api.ErrFull},
		{strings.Repeat("\n", api.MaxLines) + "\xff\nx\n", 0, api.MaxLines + 1, api.ErrFull},
		{strings.Repeat("\n", api.MaxLines-1) + "x", 0, api.MaxLines, api.ErrForm},
		{strings.Repeat("\n", api.MaxLines-1) + "x\n\n\n", 0, api.MaxLines, api.ErrForm},
		{strings.Repeat(same, api.MaxLines), 1, api.MaxLines, api.OK},
		{many(api.MaxTriples), api.MaxTriples, api.MaxTriples, api.OK},
		{many(api.MaxTriples) + many(api.MaxTriples), api.MaxTriples, api.MaxLines, api.OK},
		{many(api.MaxTriples) + many(1) + "#\n" + many(api.MaxTriples + 1)[len(many(api.MaxTriples)):], 0, api.MaxTriples + 3, api.ErrFull},
		{many(api.MaxTriples + 1), 0, api.MaxTriples + 1, api.ErrFull},
		{many(api.MaxTriples+1) + "x", 0, api.MaxTriples + 1, api.ErrFull},
		{many(api.MaxTriples) + "x\n" + same, 0, api.MaxTriples + 1, api.ErrForm},
		{many(api.MaxTriples) + many(api.MaxTriples) + "\n", 0, api.MaxLines + 1, api.ErrFull},
		{"#" + strings.Repeat("x", api.MaxDoc-1), 0, 1, api.OK},
		{"#" + strings.Repeat("x", api.MaxDoc), 0, 0, api.ErrLong},
		{strings.Repeat("x", api.MaxDoc), 0, 1, api.ErrForm},
		{strings.Repeat("x", api.MaxDoc+1), 0, 0, api.ErrLong},
		{strings.Repeat("\n", api.MaxDoc+1), 0, 0, api.ErrLong},
		{strings.Repeat("\xff", 1<<20), 0, 0, api.ErrLong},
	} {
		l, n, no := Parse(x.s)
		if len(l) != x.n || n != x.lines || no != x.no || no != api.OK && l != nil {
			t.Errorf("%.30q: %d %d %v, not %+v", x.s, len(l), n, no, x.n)
		}
	}
}

func someTriples() []api.Triple {
	return []api.Triple{
		abc(iri("c")), {S: blank("a"), P: iri("b"), O: iri("c")}, abc(plain("\n\"\\\x00é")), abc(lang("", "en-us")), abc(typed("1", "d")),
		{S: iri("a"), P: iri("a"), O: iri("z")}, abc(iri("c")), {S: iri("0"), P: iri("z"), O: iri("z")}, {S: iri("a/b"), P: iri("b"), O: blank("Z9")},
	}
}

// P5.3
func TestCmpAndSort(t *testing.T) {
	rising := []api.Triple{
		{S: iri("0"), P: iri("z"), O: iri("z")}, {S: iri("a/b"), P: iri("b"), O: blank("Z9")}, {S: iri("a"), P: iri("a"), O: iri("z")},
		abc(lang("", "en-us")), abc(typed("1", "d")), abc(plain("\n\"\\\x00é")), abc(iri("c")), {S: blank("a"), P: iri("b"), O: iri("c")},
	}
	for i, a := range rising {
		for j, b := range rising {
			want := 0
			if i < j {
				want = -1
			} else if i > j {
				want = 1
			}
			if Cmp(a, b) != want {
				t.Errorf("%d %d: %d", i, j, Cmp(a, b))
			}
		}
	}
	l := someTriples()
	if got := Sort(l); !slices.Equal(got, rising) || !slices.Equal(l, someTriples()) {
		t.Error(got)
	}
	if len(Sort(nil)) != 0 || len(Sort([]api.Triple{})) != 0 {
		t.Error("none")
	}
	odd := []api.Triple{{}, abc(api.Term{Kind: 77}), {}, {S: iri("\xff")}}
	if len(Sort(odd)) != 3 || Cmp(api.Triple{}, api.Triple{}) != 0 {
		t.Error("what may not be")
	}
}

// P5.3: terms are held against each other one by one, not as one text.
func TestCmpOneByOne(t *testing.T) {
	a := api.Triple{S: blank("a"), P: iri("z"), O: iri("z")}
	b := api.Triple{S: blank("a0"), P: iri("a"), O: iri("a")}
	if Cmp(a, b) != -1 || Cmp(b, a) != 1 {
		t.Error("S")
	}
	if Cmp(abc(plain("x")), abc(lang("x", "en"))) != -1 || Cmp(abc(blank("a")), abc(blank("a0"))) != -1 {
		t.Error("O")
	}
}

// P5.3
func TestPrint(t *testing.T) {
	l := someTriples()
	want := "<a> <b> <c> .\n_:a <b> <c> .\n<a> <b> \"\\n\\\"\\\\\\u0000é\" .\n<a> <b> \"\"@en-us .\n<a> <b> \"1\"^^<d> .\n" +
		"<a> <a> <z> .\n<a> <b> <c> .\n<0> <z> <z> .\n<a/b> <b> _:Z9 .\n"
	if Print(l) != want || !slices.Equal(l, someTriples()) {
		t.Error(Print(l))
	}
	if Print(nil) != "" || Print([]api.Triple{}) != "" {
		t.Error("none")
	}
}

// P5.4
func TestParseOfPrint(t *testing.T) {
	l := someTriples()
	got, n, no := Parse(Print(l))
	if !slices.Equal(got, Sort(l)) || n != len(l) || no != api.OK {
		t.Error(got, n, no)
	}
	for c := rune(0); c < 0x180; c++ {
		triple := abc(plain("a" + string(c)))
		if !term.Is(triple.O) {
			t.Fatal(c)
		}
		if got, _, no := Parse(Print([]api.Triple{triple})); no != api.OK || len(got) != 1 || got[0] != triple {
			t.Errorf("%x: %v %v", c, got, no)
		}
	}
}

// P5.4
func TestNothingShared(t *testing.T) {
	room := someTriples()
	got := Sort(room[:3])
	if !slices.Equal(room, someTriples()) {
		t.Error("changed")
	}
	want := slices.Clone(got)
	clear(room)
	if !slices.Equal(got, want) {
		t.Error("kept")
	}
	first, _, _ := Parse("<a><b><c>.")
	first[0] = api.Triple{}
	if again, _, _ := Parse("<a><b><c>."); again[0] != abc(iri("c")) {
		t.Error("shared")
	}
}
