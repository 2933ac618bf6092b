package walk

import (
	"slices"

	"trivium/api"
	"trivium/auto"
	"trivium/ring"
	"trivium/store"
)

// net is where one may go: from a place of an automaton and a node to others.
type net struct {
	nodes  int
	moves  [][]move // of each place
	starts []bool   // of each place: whether a walk may begin there
	ends   []bool   // of each place: whether a walk may end there
}

// move goes to a place and from each node to the nodes along[node].
type move struct {
	place int
	along [][]int
}

func newNet(s *store.Store, p api.Path) (*net, api.Errno) {
	if s == nil {
		return nil, api.ErrArg
	}
	a, no := auto.New(p)
	if no != api.OK {
		return nil, no
	}
	n := emptyNet(len(s.Terms()), a.Places())
	n.starts[0] = true
	for place := range n.ends {
		n.ends[place] = a.Last(place)
	}
	// All steps to one place go along the same, so that it is looked up once.
	known := make([][][]int, a.Places())
	for _, step := range a.Steps() {
		if known[step.To] == nil {
			known[step.To] = n.lookUp(s, step)
		}
		n.moves[step.From] = append(n.moves[step.From], move{step.To, known[step.To]})
	}
	return n, api.OK
}

func emptyNet(nodes, places int) *net {
	return &net{nodes, make([][]move, places), make([]bool, places), make([]bool, places)}
}

// lookUp is the nodes to which a step leads, of each node.
func (n *net) lookUp(s *store.Store, step api.Step) [][]int {
	along := make([][]int, n.nodes+1)
	for _, t := range triples(s, step) {
		from, to := t[0], t[2]
		if step.Back {
			from, to = to, from
		}
		along[from] = append(along[from], to)
	}
	return along
}

// triples is all triples that a step can go along.
func triples(s *store.Store, step api.Step) []api.IDs {
	var names []int
	for _, text := range step.Texts {
		if id := s.ID(api.Term{Kind: api.IRI, Text: text}); id != 0 {
			names = append(names, id)
		}
	}
	r := s.Ring()
	if step.Not {
		return slices.DeleteFunc(r.All(api.IDs{}), func(t api.IDs) bool { return slices.Contains(names, t[1]) })
	}
	return named(r, names)
}

func named(r *ring.Ring, names []int) []api.IDs {
	var l []api.IDs
	for _, id := range names {
		l = append(l, r.All(api.IDs{0, id, 0})...)
	}
	return l
}

// turned is the net of the same walks, gone from their ends to their starts.
func (n *net) turned() *net {
	t := emptyNet(n.nodes, len(n.moves))
	copy(t.starts, n.ends)
	copy(t.ends, n.starts)
	for place, moves := range n.moves {
		for _, m := range moves {
			t.moves[m.place] = append(t.moves[m.place], move{place, turn(m.along)})
		}
	}
	return t
}

func turn(along [][]int) [][]int {
	turned := make([][]int, len(along))
	for from, l := range along {
		for _, to := range l {
			turned[to] = append(turned[to], from)
		}
	}
	return turned
}

// spot is a place and a node.
type spot struct {
	place, node int
}

// visit tells see the nodes where walks from a node end, some of them more than once, until see answers false.
func (n *net) visit(node int, see func(node int) bool) {
	if node < 1 || node > n.nodes {
		return
	}
	var rest []spot
	for place, start := range n.starts {
		if start {
			rest = append(rest, spot{place, node})
		}
	}
	seen := make([][]bool, len(n.moves))
	for place := range seen {
		seen[place] = make([]bool, n.nodes+1)
	}
going:
	for len(rest) > 0 {
		here := rest[len(rest)-1]
		rest = rest[:len(rest)-1]
		if seen[here.place][here.node] {
			continue going
		}
		seen[here.place][here.node] = true
		if n.ends[here.place] && !see(here.node) {
			break going
		}
		for _, m := range n.moves[here.place] {
			for _, next := range m.along[here.node] {
				rest = append(rest, spot{m.place, next})
			}
		}
	}
}

// reach is the nodes where walks from a node end, rising.
func (n *net) reach(node int) []int {
	ends := make([]bool, n.nodes+1)
	n.visit(node, func(node int) bool {
		ends[node] = true
		return true
	})
	var l []int
	for node, end := range ends {
		if end {
			l = append(l, node)
		}
	}
	return l
}
