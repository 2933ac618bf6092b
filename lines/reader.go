package lines

import (
	"strconv"
	"strings"
	"unicode/utf8"

	"trivium/api"
)

// reader goes through one line.
type reader struct {
	s  string
	at int
}

func (r *reader) skipBlanks() {
	for r.at < len(r.s) && (r.s[r.at] == ' ' || r.s[r.at] == '\t') {
		r.at++
	}
}

// skip goes behind a text, if it stands here.
func (r *reader) skip(text string) bool {
	if !strings.HasPrefix(r.s[r.at:], text) {
		return false
	}
	r.at += len(text)
	return true
}

// ended tells whether nothing but a remark stands here.
func (r *reader) ended() bool {
	return r.at == len(r.s) || r.s[r.at] == '#'
}

// triple reads up to the blanks behind the point; whether its terms may be is not looked at.
func (r *reader) triple() (api.Triple, bool) {
	var l [3]api.Term
	for i := range l {
		t, ok := r.term()
		if !ok {
			return api.Triple{}, false
		}
		l[i] = t
		r.skipBlanks()
	}
	if !r.skip(".") {
		return api.Triple{}, false
	}
	r.skipBlanks()
	return api.Triple{S: l[0], P: l[1], O: l[2]}, true
}

func (r *reader) term() (api.Term, bool) {
	switch {
	case r.skip("<"):
		text, ok := r.textUpTo('>', false)
		return api.Term{Kind: api.IRI, Text: text}, ok
	case r.skip("_:"):
		return api.Term{Kind: api.Blank, Text: r.name(isLabelByte)}, true
	case r.skip("\""):
		return r.literal()
	}
	return api.Term{}, false
}

// literal reads what stands behind the first quotation mark.
func (r *reader) literal() (api.Term, bool) {
	text, ok := r.textUpTo('"', true)
	if !ok {
		return api.Term{}, false
	}
	switch {
	case r.skip("@"):
		language := strings.ToLower(r.name(isLanguageByte))
		return api.Term{Kind: api.Lang, Text: text, Extra: language}, true
	case r.skip("^^<"):
		kind, ok := r.textUpTo('>', false)
		return api.Term{Kind: api.Typed, Text: text, Extra: kind}, ok
	}
	return api.Term{Kind: api.Plain, Text: text}, true
}

// textUpTo reads a text and the sign that ends it; short tells whether escapes of one letter may stand in it.
func (r *reader) textUpTo(end byte, short bool) (string, bool) {
	var b []byte
reading:
	for r.at < len(r.s) {
		c := r.s[r.at]
		r.at++
		switch c {
		case end:
			return string(b), true
		case '\n', '\r':
			break reading
		case '\\':
			escaped, ok := r.escaped(short)
			if !ok {
				break reading
			}
			b = utf8.AppendRune(b, escaped)
			continue reading
		}
		b = append(b, c)
	}
	return "", false
}

// escaped reads what stands behind a backslash.
func (r *reader) escaped(short bool) (rune, bool) {
	switch {
	case r.skip("u"):
		return r.hexadecimal(4)
	case r.skip("U"):
		return r.hexadecimal(8)
	case !short || r.at == len(r.s):
		return 0, false
	}
	r.at++
	return shortEscape(r.s[r.at-1])
}

func shortEscape(c byte) (rune, bool) {
	switch c {
	case '"', '\\', '\'':
		return rune(c), true
	case 'n':
		return '\n', true
	case 'r':
		return '\r', true
	case 't':
		return '\t', true
	case 'b':
		return '\b', true
	case 'f':
		return '\f', true
	}
	return 0, false
}

func (r *reader) hexadecimal(digits int) (rune, bool) {
	if len(r.s)-r.at < digits {
		return 0, false
	}
	n, err := strconv.ParseUint(r.s[r.at:r.at+digits], 16, 32)
	r.at += digits
	if err != nil || n > utf8.MaxRune || !utf8.ValidRune(rune(n)) {
		return 0, false
	}
	return rune(n), true
}

// name reads as many bytes of a sort as there are.
func (r *reader) name(has func(c byte) bool) string {
	from := r.at
	for r.at < len(r.s) && has(r.s[r.at]) {
		r.at++
	}
	return r.s[from:r.at]
}

func isLabelByte(c byte) bool {
	return c >= 'a' && c <= 'z' || c >= 'A' && c <= 'Z' || c >= '0' && c <= '9'
}

func isLanguageByte(c byte) bool {
	return c == '-' || isLabelByte(c)
}
