package query

import (
	"strings"

	"trivium/api"
	"trivium/term"
)

// reader goes through a path's text. With an error it stands at the error's place.
type reader struct {
	s  string
	at int
}

// peek is the sign that stands behind the blanks; a nought, which is no sign, at the end.
func (r *reader) peek() byte {
	for r.at < len(r.s) && r.s[r.at] == ' ' {
		r.at++
	}
	if r.at == len(r.s) {
		return 0
	}
	return r.s[r.at]
}

// whole reads a path with nothing behind it.
func (r *reader) whole() (api.Path, api.Errno) {
	p, no := r.path(0)
	if no != api.OK {
		return api.Path{}, no
	}
	r.peek()
	if r.at < len(r.s) {
		return api.Path{}, api.ErrForm
	}
	return p, api.OK
}

func (r *reader) path(depth int) (api.Path, api.Errno) {
	return r.row('|', api.PathAlt, depth, r.sequence)
}

func (r *reader) sequence(depth int) (api.Path, api.Errno) {
	return r.row('/', api.PathSeq, depth, r.step)
}

// row reads parts with a sign between, bound to the left.
func (r *reader) row(sign byte, kind, depth int, part func(depth int) (api.Path, api.Errno)) (api.Path, api.Errno) {
	p, no := part(depth)
reading:
	for no == api.OK {
		if r.peek() != sign {
			break reading
		}
		r.at++
		var next api.Path
		next, no = part(depth)
		p = api.Path{Kind: kind, Kids: []api.Path{p, next}}
	}
	return p, no
}

func (r *reader) step(depth int) (api.Path, api.Errno) {
	p, no := r.back(depth)
reading:
	for no == api.OK {
		kind := 0
		switch r.peek() {
		case '*':
			kind = api.PathStar
		case '+':
			kind = api.PathPlus
		case '?':
			kind = api.PathMaybe
		default:
			break reading
		}
		r.at++
		p = around(kind, p)
	}
	return p, no
}

func around(kind int, kid api.Path) api.Path {
	return api.Path{Kind: kind, Kids: []api.Path{kid}}
}

func (r *reader) back(depth int) (api.Path, api.Errno) {
	if r.peek() != '^' {
		return r.atom(depth)
	}
	if depth == api.MaxDeep {
		return api.Path{}, api.ErrFull
	}
	r.at++
	kid, no := r.back(depth + 1)
	return around(api.PathBack, kid), no
}

func (r *reader) atom(depth int) (api.Path, api.Errno) {
	switch r.peek() {
	case '(':
		return r.bracket(depth)
	case '!':
		r.at++
		return r.not()
	}
	text, no := r.iri()
	return api.Path{Kind: api.PathIRI, Text: text}, no
}

func (r *reader) bracket(depth int) (api.Path, api.Errno) {
	if depth == api.MaxDeep {
		return api.Path{}, api.ErrFull
	}
	r.at++
	p, no := r.path(depth + 1)
	if no != api.OK {
		return api.Path{}, no
	}
	if r.peek() != ')' {
		return api.Path{}, api.ErrForm
	}
	r.at++
	return p, api.OK
}

// not reads what stands behind a `!`.
func (r *reader) not() (api.Path, api.Errno) {
	if !strings.HasPrefix(r.s[r.at:], "(") {
		text, no := r.iri()
		return api.Path{Kind: api.PathNot, Texts: []string{text}}, no
	}
	var l []string
reading:
	for {
		r.at++ // the bracket, or what parts two IRIs
		text, no := r.iri()
		if no != api.OK {
			return api.Path{}, no
		}
		l = append(l, text)
		switch r.peek() {
		case '|':
			continue reading
		case ')':
			break reading
		}
		return api.Path{}, api.ErrForm
	}
	r.at++
	return api.Path{Kind: api.PathNot, Texts: l}, api.OK
}

func (r *reader) iri() (string, api.Errno) {
	if r.peek() != '<' {
		return "", api.ErrForm
	}
	text, _, ended := strings.Cut(r.s[r.at+1:], ">")
	if !ended || !term.IsIRI(text) {
		return "", api.ErrForm
	}
	r.at += len(text) + 2
	return text, api.OK
}
