package join

import (
	"slices"

	"trivium/api"
	"trivium/store"
	"trivium/walk"
)

// net is what a query's patterns ask of its variables.
type net struct {
	names   []string
	nodes   int
	domains [][]bool // of each variable: which numbers it may have
	links   []link
	fails   bool // whether a pattern without variables does not hold
}

// link is a pattern between two variables.
type link struct {
	from, to int
	leads    [][]bool
}

func newNet(s *store.Store, names []string) *net {
	n := &net{names: names, nodes: len(s.Terms()), domains: make([][]bool, len(names))}
	for i := range n.domains {
		n.domains[i] = make([]bool, n.nodes+1)
		for node := range n.nodes {
			n.domains[i][node+1] = true
		}
	}
	return n
}

// lay adds a pattern to the net.
func (n *net) lay(s *store.Store, p api.Pattern) api.Errno {
	from, to := slices.Index(n.names, p.S.Var), slices.Index(n.names, p.O.Var)
	switch {
	case from >= 0 && to >= 0:
		return n.layPairs(s, p.P, from, to)
	case from >= 0:
		l, no := walk.To(s, p.P, s.ID(p.O.T))
		n.restrict(from, l)
		return no
	case to >= 0:
		l, no := walk.From(s, p.P, s.ID(p.S.T))
		n.restrict(to, l)
		return no
	}
	holds, no := leads(s, p)
	n.fails = n.fails || !holds
	return no
}

func (n *net) layPairs(s *store.Store, p api.Path, from, to int) api.Errno {
	l, no := walk.Pairs(s, p)
	if from != to {
		n.links = append(n.links, n.newLink(from, to, l))
		return no
	}
	var rounds []int
	for _, pair := range l {
		if pair[0] == pair[1] {
			rounds = append(rounds, pair[0])
		}
	}
	n.restrict(from, rounds)
	return no
}

func (n *net) newLink(from, to int, l [][2]int) link {
	leads := make([][]bool, n.nodes+1)
	for i := range leads {
		leads[i] = make([]bool, n.nodes+1)
	}
	for _, pair := range l {
		leads[pair[0]][pair[1]] = true
	}
	return link{from, to, leads}
}

// restrict takes from a variable all numbers but these.
func (n *net) restrict(variable int, l []int) {
	only := make([]bool, n.nodes+1)
	for _, node := range l {
		only[node] = n.domains[variable][node]
	}
	n.domains[variable] = only
}

// leads tells whether a pattern between two terms holds.
func leads(s *store.Store, p api.Pattern) (bool, api.Errno) {
	from, to := s.ID(p.S.T), s.ID(p.O.T)
	has, no := walk.Has(s, p.P, from, to)
	if no != api.OK || from != 0 && to != 0 {
		return has, no
	}
	return p.S.T == p.O.T && standsStill(p.P), api.OK
}

// standsStill tells whether a path has the word of no steps.
func standsStill(p api.Path) bool {
	switch p.Kind {
	case api.PathStar, api.PathMaybe:
		return true
	case api.PathBack, api.PathPlus:
		return standsStill(p.Kids[0])
	case api.PathSeq:
		return standsStill(p.Kids[0]) && standsStill(p.Kids[1])
	case api.PathAlt:
		return standsStill(p.Kids[0]) || standsStill(p.Kids[1])
	}
	return false
}

// prune takes from the variables all numbers to which a link leaves no partner. Then, but in rounds of
// links, each number that is tried is a part of a row.
func (n *net) prune() {
	for again := true; again; {
		again = false
		for _, l := range n.links {
			if n.pruneLink(l) {
				again = true
			}
		}
	}
}

// pruneLink tells whether it took any number.
func (n *net) pruneLink(l link) bool {
	from, to := make([]bool, n.nodes+1), make([]bool, n.nodes+1)
	for i := range from {
		for j := range to {
			if n.domains[l.from][i] && n.domains[l.to][j] && l.leads[i][j] {
				from[i], to[j] = true, true
			}
		}
	}
	less := !slices.Equal(from, n.domains[l.from]) || !slices.Equal(to, n.domains[l.to])
	n.domains[l.from], n.domains[l.to] = from, to
	return less
}
