package paths_test

import (
	"fmt"
	"slices"
	"testing"

	"countinghouse/api"
	"countinghouse/graphs"
	"countinghouse/paths"
)

// dice throws the same numbers in each run.
type dice uint64

func (d *dice) below(n int) int {
	*d = *d*6364136223846793005 + 1442695040888963407
	return int(*d >> 33 % dice(n))
}

// some parties, in any order.
func (d *dice) some(n int) []api.Party {
	l := all()
	for i := range l {
		j := i + d.below(len(l)-i)
		l[i], l[j] = l[j], l[i]
	}
	return l[:n]
}

// graph has edges between these parties, of a hundred pairs so many, and edges of 0.
func (d *dice) graph(t *testing.T, parties []api.Party, dense int) *graphs.Graph {
	t.Helper()
	var list []api.Flow
	for _, a := range parties {
		for _, b := range parties {
			if a == b {
				continue
			}
			n := int64(0)
			if d.below(100) < dense {
				n = int64(1 + d.below(3))
			}
			list = append(list, api.Flow{From: a, To: b, N: n})
		}
	}
	return made(t, list...)
}

// ways are all of them, by the document's words: from a party on, that came by these, to another one.
func ways(g *graphs.Graph, came []api.Party, to api.Party) [][]api.Party {
	last := came[len(came)-1]
	if last == to {
		return [][]api.Party{slices.Clone(came)}
	}
	var l [][]api.Party
	for _, p := range all() {
		if g.Cap(last, p) > 0 && !slices.Contains(came, p) {
			l = append(l, ways(g, append(slices.Clone(came), p), to)...)
		}
	}
	return l
}

// shortest of all ways: of the fewest parties, of these the least, party by party.
func shortest(g *graphs.Graph, from, to api.Party) []api.Party {
	var best []api.Party
	for _, w := range ways(g, way(from), to) {
		if best == nil || len(w) < len(best) || len(w) == len(best) && slices.Compare(w, best) < 0 {
			best = w
		}
	}
	return best
}

// P6.1, P6.3: of a few parties, whatever edges there are, and were pushed along, the shortest of all ways.
func TestWalkOfWays(t *testing.T) {
	seen := map[int]int{}
	for seed := range 150 {
		d := dice(seed)
		parties := d.some(6)
		g := d.graph(t, parties, 15+5*d.below(8))
		for i := range 6 {
			for _, from := range parties {
				for _, to := range parties {
					var want []api.Party
					if from != to {
						want = shortest(g, from, to)
					}
					short(t, fmt.Sprintf("walk %d, step %d", seed, i), g, from, to, want...)
					seen[len(want)]++
				}
			}
			if edges := g.Edges(); len(edges) > 0 {
				x := edges[d.below(len(edges))]
				g.Push(x.From, x.To, x.N)
			}
		}
	}
	for _, many := range []int{0, 2, 3, 4, 5} {
		if seen[many] < 200 {
			t.Errorf("ways of %d parties came %d times only", many, seen[many])
		}
	}
}

// steps are how many it takes at least from each party to each other one; far, if there is no way.
func steps(g *graphs.Graph) map[[2]api.Party]int {
	m := map[[2]api.Party]int{}
	for _, a := range all() {
		for _, b := range all() {
			switch {
			case a == b:
				m[[2]api.Party{a, b}] = 0
			case g.Cap(a, b) > 0:
				m[[2]api.Party{a, b}] = 1
			default:
				m[[2]api.Party{a, b}] = far
			}
		}
	}
	for _, over := range all() {
		for _, a := range all() {
			for _, b := range all() {
				ends := [2]api.Party{a, b}
				m[ends] = min(m[ends], m[[2]api.Party{a, over}]+m[[2]api.Party{over, b}])
			}
		}
	}
	return m
}

const far = 1000

// nearer goes by the counted steps: always to the least party that is one step nearer.
func nearer(g *graphs.Graph, left map[[2]api.Party]int, from, to api.Party) []api.Party {
	if from == to || left[[2]api.Party{from, to}] >= far {
		return nil
	}
	l := way(from)
	for p := from; p != to; p = l[len(l)-1] {
		next := slices.IndexFunc(all(), func(q api.Party) bool {
			return g.Cap(p, q) > 0 && left[[2]api.Party{q, to}] == left[[2]api.Party{p, to}]-1
		})
		l = append(l, all()[next])
	}
	return l
}

// P6.1, P6.3: of all parties: no way takes fewer steps, and of as many none is less.
func TestWalkOfLongWays(t *testing.T) {
	longest := 0
	for seed := range 120 {
		d := dice(seed)
		g := d.graph(t, all(), 5+d.below(12))
		left := steps(g)
		for _, from := range all() {
			for _, to := range all() {
				want := nearer(g, left, from, to)
				short(t, fmt.Sprint("walk ", seed), g, from, to, want...)
				longest = max(longest, len(want))
			}
		}
	}
	if longest < 9 {
		t.Errorf("ways of %d parties at most came", longest)
	}
}

func party(p api.Party) bool { return p >= 1 && p <= 16 }

// plain is a round as the document's words have it; times: how often all edges are gone over.
func plain(edges []paths.Edge, times int) []api.Party {
	distance, ahead := map[api.Party]int{}, map[api.Party]api.Party{}
	var last api.Party
	for range times {
		changed := false
		for _, x := range edges {
			if party(x.From) && party(x.To) && distance[x.From]+int(x.Cost) < distance[x.To] {
				distance[x.To] = distance[x.From] + int(x.Cost)
				ahead[x.To] = x.From
				last, changed = x.To, true
			}
		}
		if !changed {
			return nil
		}
	}
	p := last
	for range 16 {
		p = ahead[p]
	}
	var came []api.Party
	for !slices.Contains(came, p) {
		came = append(came, p)
		p = ahead[p]
	}
	came = turned(came[slices.Index(came, p):])
	for came[0] != slices.Min(came) {
		came = append(came[1:], came[0])
	}
	return came
}

// cost of a step: the least edge's; false, if there is none.
func cost(edges []paths.Edge, from, to api.Party) (int, bool) {
	least, there := 0, false
	for _, x := range edges {
		if x.From == from && x.To == to && (!there || int(x.Cost) < least) {
			least, there = int(x.Cost), true
		}
	}
	return least, there
}

// costs of a round together; false, if it is none.
func costs(edges []paths.Edge, r []api.Party) (int, bool) {
	sum := 0
	for i, p := range r {
		n, there := cost(edges, p, r[(i+1)%len(r)])
		if !there || slices.Contains(r[:i], p) || !party(p) {
			return 0, false
		}
		sum += n
	}
	return sum, true
}

// cheapest is what the cheapest of all rounds costs whose parties are among these, and that begins with those that came.
func cheapest(edges []paths.Edge, parties, came []api.Party) (int, bool) {
	least, there := costs(edges, came)
	there = there && len(came) > 0
	for _, p := range parties {
		if slices.Contains(came, p) {
			continue
		}
		if len(came) > 0 {
			if _, goes := cost(edges, came[len(came)-1], p); !goes {
				continue
			}
		}
		if n, ok := cheapest(edges, parties, append(slices.Clone(came), p)); ok && (!there || n < least) {
			least, there = n, true
		}
	}
	return least, there
}

// below is whether a round of any parties costs less than 0, by the costs of all ways over more and more parties.
func below(edges []paths.Edge) bool {
	m := map[[2]api.Party]int{}
	for _, a := range all() {
		for _, b := range all() {
			m[[2]api.Party{a, b}] = far
			if n, there := cost(edges, a, b); there {
				m[[2]api.Party{a, b}] = n
			}
		}
	}
	for _, over := range all() {
		for _, a := range all() {
			for _, b := range all() {
				// No way gets below what a round that is found costs: so much is enough.
				ends := [2]api.Party{a, b}
				m[ends] = max(-far, min(m[ends], m[[2]api.Party{a, over}]+m[[2]api.Party{over, b}]))
			}
		}
	}
	return slices.ContainsFunc(all(), func(p api.Party) bool { return m[[2]api.Party{p, p}] < 0 })
}

// edges with costs up to so much, in any order, between these parties; now and then of one that is none.
func (d *dice) edges(parties []api.Party, many, most, shift int) []paths.Edge {
	var l []paths.Edge
	for range many {
		x := at(parties[d.below(len(parties))], parties[d.below(len(parties))], int8(d.below(2*most+1)-most+shift))
		if d.below(20) == 0 {
			x.To = []api.Party{0, 17, 255}[d.below(3)]
		}
		if d.below(20) == 0 {
			x.From = []api.Party{0, 17, 255}[d.below(3)]
		}
		l = append(l, x)
	}
	return l
}

// P6.2, P6.3: of a few parties the round that the plain search finds; it costs less than 0, and where none is found, none of all does.
func TestWalkOfRounds(t *testing.T) {
	found, none, several, turns := map[int]int{}, 0, 0, 0
	for seed := range 30000 {
		d := dice(seed)
		parties := d.some(1 + d.below(6))
		most := []int{1, 3, 10, 60}[d.below(4)]
		edges := d.edges(parties, d.below(20), most, d.below(most+1))
		what := fmt.Sprint("walk ", seed)
		want := plain(edges, api.MaxParties)
		round(t, what, edges, want...)
		least, there := cheapest(edges, parties, nil)
		if (len(want) > 0) != (there && least < 0) {
			t.Fatalf("%s: Round(%v): %v, but the cheapest costs %d, %v", what, edges, want, least, there)
		}
		if len(want) == 0 {
			none++
			continue
		}
		found[len(want)]++
		sum, ok := costs(edges, want)
		if !ok || sum >= 0 {
			t.Fatalf("%s: Round(%v): %v costs %d, %v", what, edges, want, sum, ok)
		}
		if sum > least {
			several++
		}
		if !slices.Equal(want, plain(edges, api.MaxParties+1)) {
			turns++
		}
	}
	for _, many := range []int{1, 2, 3, 4} {
		if found[many] < 50 {
			t.Errorf("rounds of %d parties came %d times only", many, found[many])
		}
	}
	if none < 1000 || several < 200 || turns < 10 {
		t.Errorf("%d times none, %d times another one than the cheapest, %d times another one of one time more", none, several, turns)
	}
}

// P6.2, P6.3: of all parties.
func TestWalkOfLongRounds(t *testing.T) {
	longest, none := 0, 0
	for seed := range 1500 {
		d := dice(seed)
		edges := d.edges(all(), 16+d.below(60), 3, d.below(4))
		what := fmt.Sprint("walk ", seed)
		want := plain(edges, api.MaxParties)
		round(t, what, edges, want...)
		if (len(want) > 0) != below(edges) {
			t.Fatalf("%s: Round(%v): %v, but one is below 0: %v", what, edges, want, below(edges))
		}
		if len(want) == 0 {
			none++
		} else if sum, ok := costs(edges, want); !ok || sum >= 0 {
			t.Fatalf("%s: Round(%v): %v costs %d, %v", what, edges, want, sum, ok)
		}
		longest = max(longest, len(want))
	}
	if longest < 7 || none < 100 {
		t.Errorf("rounds of %d parties at most came, %d times none", longest, none)
	}
}
