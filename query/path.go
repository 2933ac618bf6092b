package query

import (
	"slices"
	"strings"

	"trivium/api"
	"trivium/term"
)

const (
	maxPaths = 30
	maxNot   = 4
)

// Path is a text as a path.
func Path(s string) (api.Path, int, api.Errno) {
	if len(s) > api.MaxQuery {
		return api.Path{}, 0, api.ErrLong
	}
	r := reader{s: s}
	p, no := r.whole()
	if no != api.OK {
		return api.Path{}, r.at, no
	}
	return p, len(s), api.OK
}

// kids is how many Kids a path of that kind has; -1, if there is no such kind.
func kids(kind int) int {
	switch kind {
	case api.PathIRI, api.PathNot:
		return 0
	case api.PathBack, api.PathStar, api.PathPlus, api.PathMaybe:
		return 1
	case api.PathSeq, api.PathAlt:
		return 2
	}
	return -1
}

// IsPath tells whether a path may be.
func IsPath(p api.Path) bool {
	left := maxPaths
	return isPath(p, 0, &left)
}

// isPath takes each path that it looks at from left, and ends with the last of them.
func isPath(p api.Path, depth int, left *int) bool {
	*left--
	if *left < 0 || depth > api.MaxDeep || len(p.Kids) != kids(p.Kind) || !textsMayBe(p) {
		return false
	}
	for _, kid := range p.Kids {
		if !isPath(kid, depth+1, left) {
			return false
		}
	}
	return true
}

func textsMayBe(p api.Path) bool {
	if p.Kind == api.PathIRI {
		return len(p.Texts) == 0 && term.IsIRI(p.Text)
	}
	if p.Kind != api.PathNot {
		return p.Text == "" && len(p.Texts) == 0
	}
	if p.Text != "" || len(p.Texts) < 1 || len(p.Texts) > maxNot {
		return false
	}
	for _, text := range p.Texts {
		if !term.IsIRI(text) {
			return false
		}
	}
	return true
}

// Show is a path as a text.
func Show(p api.Path) string {
	if !IsPath(p) {
		return ""
	}
	return show(p)
}

func show(p api.Path) string {
	switch p.Kind {
	case api.PathIRI:
		return "<" + p.Text + ">"
	case api.PathNot:
		return "!(<" + strings.Join(p.Texts, ">|<") + ">)"
	case api.PathBack:
		return "^" + showKid(p.Kids[0])
	case api.PathSeq:
		return showKid(p.Kids[0]) + "/" + showKid(p.Kids[1])
	case api.PathAlt:
		return showKid(p.Kids[0]) + "|" + showKid(p.Kids[1])
	case api.PathStar:
		return showKid(p.Kids[0]) + "*"
	case api.PathPlus:
		return showKid(p.Kids[0]) + "+"
	case api.PathMaybe:
		return showKid(p.Kids[0]) + "?"
	}
	return ""
}

func showKid(p api.Path) string {
	if p.Kind == api.PathIRI {
		return show(p)
	}
	return "(" + show(p) + ")"
}

// pair is two paths that are to be held against each other.
type pair struct {
	a, b *api.Path
}

// SamePath tells whether two paths are one. Paths can have Kids in common, and even be their own Kids; so
// each pair is looked at once, that it always ends.
func SamePath(a, b api.Path) bool {
	rest := []pair{{&a, &b}}
	seen := map[pair]struct{}{}
	for len(rest) > 0 {
		next := rest[len(rest)-1]
		rest = rest[:len(rest)-1]
		if _, twice := seen[next]; twice || next.a == next.b {
			continue
		}
		seen[next] = struct{}{}
		if !sameButKids(next.a, next.b) {
			return false
		}
		for i := range next.a.Kids {
			rest = append(rest, pair{&next.a.Kids[i], &next.b.Kids[i]})
		}
	}
	return true
}

func sameButKids(a, b *api.Path) bool {
	return a.Kind == b.Kind && a.Text == b.Text && slices.Equal(a.Texts, b.Texts) && len(a.Kids) == len(b.Kids)
}
