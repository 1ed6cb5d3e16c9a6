package flows_test

import (
	"fmt"
	"slices"
	"testing"

	"countinghouse/api"
	"countinghouse/flows"
	"countinghouse/graphs"
	"countinghouse/ledgers"
	"countinghouse/paths"
)

// dice throws the same numbers in each run.
type dice uint64

func (d *dice) below(n int) int {
	*d = *d*6364136223846793005 + 1442695040888963407
	return int(*d >> 33 % dice(n))
}

// some parties, in any order.
func (d *dice) some(n int) []api.Party {
	l := all()
	for i := range l {
		j := i + d.below(len(l)-i)
		l[i], l[j] = l[j], l[i]
	}
	return l[:n]
}

// edges between these parties, of a hundred pairs so many, each of up to so much.
func (d *dice) edges(parties []api.Party, dense, high int) (list []api.Flow) {
	for _, a := range parties {
		for _, b := range parties {
			if a != b && d.below(100) < dense {
				list = append(list, to(a, b, int64(d.below(high+1))))
			}
		}
	}
	return list
}

// plain is a graph as the document's words have it: capacities by their ends.
type plain map[[2]api.Party]int64

func (m plain) cap(a, b api.Party) int64 { return m[[2]api.Party{a, b}] }

func ofEdges(list []api.Flow) plain {
	m := plain{}
	for _, x := range list {
		m[[2]api.Party{x.From, x.To}] = x.N
	}
	return m
}

// shortest of all ways on from those that came: of the fewest parties, of these the least, party by party.
func (m plain) shortest(came []api.Party, to api.Party) (best []api.Party) {
	last := came[len(came)-1]
	if last == to {
		return slices.Clone(came)
	}
	for _, p := range all() {
		if m.cap(last, p) == 0 || slices.Contains(came, p) {
			continue
		}
		w := m.shortest(append(slices.Clone(came), p), to)
		if w != nil && (best == nil || len(w) < len(best) || len(w) == len(best) && slices.Compare(w, best) < 0) {
			best = w
		}
	}
	return best
}

// route by the document's words; back: how often something was pushed where no edge was at first.
func (m plain) route(from, to api.Party, want int64) (ways []waying, back int) {
	first := plain{}
	for ends, n := range m {
		first[ends] = n
	}
	for from != to && want > 0 {
		w := m.shortest([]api.Party{from}, to)
		if w == nil {
			break
		}
		n := want
		for i, p := range w[1:] {
			n = min(n, m.cap(w[i], p))
		}
		for i, p := range w[1:] {
			if first.cap(w[i], p) == 0 {
				back++
			}
			m[[2]api.Party{w[i], p}] -= n
			m[[2]api.Party{p, w[i]}] += n
		}
		want -= n
		ways = append(ways, over(n, w...))
	}
	return ways, back
}

// narrowest is the least of what goes outward, together, from any of these parties that from is among, and to is not.
func (m plain) narrowest(parties []api.Party, from, to api.Party) int64 {
	best := int64(most)
	for set := range 1 << len(parties) {
		in := map[api.Party]int{}
		for i, p := range parties {
			in[p] = set >> i & 1
		}
		if in[from] == 0 || in[to] == 1 {
			continue
		}
		sum := int64(0)
		for ends, n := range m {
			if in[ends[0]] == 1 && in[ends[1]] == 0 {
				sum += n
			}
		}
		best = min(best, sum)
	}
	return best
}

// wants are numbers about what goes at most, with those that mean nothing, or all.
func wants(top int64) []int64 {
	return []int64{least, -1, 0, 1, 2, top / 2, top - 1, top, top + 1, most}
}

// held asks for routes of edges between these parties, whatever is wanted, and holds them against the plain one, and what goes at most against what any parties let go outward; tells the plain route of all that goes.
func held(t *testing.T, what string, edges []api.Flow, parties []api.Party, from, to api.Party) (whole []waying, back int) {
	t.Helper()
	g := made(t, edges...)
	whole, back = ofEdges(edges).route(from, to, most)
	_, top := cut(whole, most)
	if from != to && top != ofEdges(edges).narrowest(parties, from, to) {
		t.Fatalf("%s: from %d to %d the plain route gets %d", what, from, to, top)
	}
	goes(t, what, g, from, to, top)
	for _, want := range wants(top) {
		w, _ := ofEdges(edges).route(from, to, want)
		pushes, got := cut(w, most)
		if got != max(0, min(want, top)) {
			t.Fatalf("%s: the plain route of %d from %d to %d gets %d of %d", what, want, from, to, got, top)
		}
		route(t, what, g, from, to, want, got, pushes...)
	}
	return whole, back
}

// P7.1 to P7.3: of a few parties, from each to each.
func TestWalkOfFew(t *testing.T) {
	ways := map[int]int{}
	for seed := range 120 {
		d := dice(seed)
		parties := d.some(6)
		edges := d.edges(parties, 20+5*d.below(10), []int{1, 3, 20, twice}[d.below(4)])
		for _, from := range parties {
			for _, to := range parties {
				whole, _ := held(t, fmt.Sprint("walk ", seed, ", ", edges), edges, parties, from, to)
				ways[len(whole)]++
			}
		}
	}
	for _, many := range []int{0, 1, 2, 3, 4} {
		if ways[many] < 50 {
			t.Errorf("routes of %d ways came %d times only", many, ways[many])
		}
	}
}

// back is edges of which a route from the first of eight parties to the fourth one goes back over what it gave from the second to the third one; some others between, now and then.
func (d *dice) back(p []api.Party) (list []api.Flow) {
	for _, l := range [][]api.Party{p[:4], {p[0], p[4], p[5], p[2]}, {p[1], p[6], p[7], p[3]}} {
		for _, x := range along(0, l...) {
			list = append(list, to(x.From, x.To, int64(1+d.below(6))))
		}
	}
	for _, x := range d.edges(p, d.below(10), 5) {
		if !slices.ContainsFunc(list, func(y api.Flow) bool { return x.From == y.From && x.To == y.To }) {
			list = append(list, x)
		}
	}
	return list
}

// P7.1 to P7.3: what an earlier way gave is taken back, all of it, a part, or more than it.
func TestWalkOfTakingBack(t *testing.T) {
	backs := 0
	for seed := range 1500 {
		d := dice(seed)
		parties := d.some(8)
		edges := d.back(parties)
		_, back := held(t, fmt.Sprint("walk ", seed, ", ", edges), edges, parties, parties[0], parties[3])
		backs += back
	}
	if backs < 200 {
		t.Errorf("%d times only something was pushed where no edge was", backs)
	}
}

// split takes the first way off pushes, that goes from one party to the other one.
func split(t *testing.T, what string, pushes []api.Flow, from, to api.Party) (w waying, rest []api.Flow) {
	t.Helper()
	w = over(pushes[0].N, from)
	for i, x := range pushes {
		if x.From != w.parties[i] || x.N != w.n {
			t.Fatalf("%s: %v is on no way from %d", what, pushes, from)
		}
		w.parties = append(w.parties, x.To)
		if x.To == to {
			return w, pushes[i+1:]
		}
	}
	t.Fatalf("%s: %v does not lead to %d", what, pushes, to)
	return w, nil
}

// steps along a route, pushing, and holds each of its ways against the document's words; tells how many ways there are.
func steps(t *testing.T, what string, g *graphs.Graph, from, to api.Party, want int64, pushes []api.Flow, got int64) int {
	t.Helper()
	many := 0
	for sum := int64(0); ; many++ {
		way := paths.Short(g, from, to)
		if sum >= want || len(way) == 0 {
			if sum != got || len(pushes) > 0 {
				t.Fatalf("%s: got %d, not %d; %v came still", what, got, sum, pushes)
			}
			return many
		}
		if len(pushes) == 0 {
			t.Fatalf("%s: got %d, though %v is a way still", what, got, way)
		}
		n := want - sum
		for i, p := range way[1:] {
			n = min(n, g.Cap(way[i], p))
		}
		var w waying
		if w, pushes = split(t, what, pushes, from, to); w.n != n || !slices.Equal(w.parties, way) {
			t.Fatalf("%s: %d over %v, not %d over %v", what, w.n, w.parties, n, way)
		}
		for i, p := range way[1:] {
			if e := g.Push(way[i], p, n); e != api.OK {
				t.Fatalf("%s: Push(%d, %d, %d): %v", what, way[i], p, n, e)
			}
		}
		sum += n
	}
}

// outward is what goes, together, in a graph, from those that a way leads to in the graph that is left: from is among them, and to must not be.
func outward(t *testing.T, what string, g, left *graphs.Graph, from, to api.Party) (sum int64) {
	t.Helper()
	came := []api.Party{from}
	for i := 0; i < len(came); i++ {
		for _, p := range all() {
			if left.Cap(came[i], p) > 0 && !slices.Contains(came, p) {
				came = append(came, p)
			}
		}
	}
	if slices.Contains(came, to) {
		t.Fatalf("%s: a way leads to %d still", what, to)
	}
	for _, x := range g.Edges() {
		if slices.Contains(came, x.From) && !slices.Contains(came, x.To) {
			sum += x.N
		}
	}
	return sum
}

// net is what each party gave less than it got by pushes.
func net(pushes []api.Flow) map[api.Party]int64 {
	m := map[api.Party]int64{}
	for _, x := range pushes {
		m[x.From] -= x.N
		m[x.To] += x.N
	}
	return m
}

// moved asks whether by these nets from has so much less, to as much more, and nobody else anything else.
func moved(t *testing.T, what string, m map[api.Party]int64, from, to api.Party, got int64) {
	t.Helper()
	for p, n := range m {
		want := int64(0)
		switch p {
		case from:
			want = -got
		case to:
			want = got
		}
		if n != want {
			t.Fatalf("%s: %d has %d more, not %d", what, p, n, want)
		}
	}
}

// P7.1 to P7.3: of all parties: each way is the shortest of what is left by then, with as much as may go; and what goes at most is what some parties let go outward.
func TestWalkOfAll(t *testing.T) {
	longest, many := 0, 0
	for seed := range 60 {
		d := dice(seed)
		g := made(t, d.edges(all(), 8+d.below(30), []int{2, 20, twice}[d.below(3)])...)
		for range 12 {
			from, to := all()[d.below(16)], all()[d.below(16)]
			what := fmt.Sprintf("walk %d, %d to %d", seed, from, to)
			top := flows.Most(g, from, to)
			for _, want := range wants(top) {
				was := g.Copy()
				pushes, got := flows.Route(g, from, to, want)
				if !g.Same(was) {
					t.Fatalf("%s: the graph is %v, not %v", what, g.Edges(), was.Edges())
				}
				if got != max(0, min(want, top)) {
					t.Fatalf("%s: got %d of %d, but %d goes", what, got, want, top)
				}
				left := g.Copy()
				ways := steps(t, what, left, from, to, want, pushes, got)
				moved(t, what, net(pushes), from, to, got)
				if from != to && want >= top {
					if sum := outward(t, what, g, left, from, to); sum != got {
						t.Fatalf("%s: got %d, but %d goes outward", what, got, sum)
					}
				}
				many = max(many, ways)
			}
			if pushes, _ := flows.Route(g, from, to, top); len(pushes) > 0 {
				w, _ := split(t, what, pushes, from, to)
				longest = max(longest, len(w.parties))
				// The next routes go where this one's first way went.
				for _, x := range along(w.n, w.parties...) {
					g.Push(x.From, x.To, x.N)
				}
			}
		}
	}
	if longest < 6 || many < 12 {
		t.Errorf("first ways of %d parties, and routes of %d ways at most came", longest, many)
	}
}

// opened is a ledger with parties and lines, some of them both ways, in the currencies 1 and 2.
func (d *dice) opened() *ledgers.Ledger {
	l := ledgers.New()
	parties := d.some(8)
	for _, p := range parties {
		l.Open(p)
	}
	for range 60 {
		l.Trust(parties[d.below(8)], parties[d.below(8)], api.Currency(1+d.below(2)), int64(d.below(40)))
	}
	return l
}

// positions of all parties in a currency.
func positions(l *ledgers.Ledger, c api.Currency) map[api.Party]int64 {
	m := map[api.Party]int64{}
	for _, p := range all() {
		m[p] = l.Position(p, c)
	}
	return m
}

// P7.3: the pushes of a ledger's graph may be done in the ledger; behind them from has got less, to as much more, and nobody else anything else, and each debt lies from 0 to its limit.
func TestWalkOfLedgers(t *testing.T) {
	went, refused := 0, 0
	for seed := range 60 {
		d := dice(seed)
		l := d.opened()
		for i := range 60 {
			from, to := l.Parties()[d.below(8)], l.Parties()[d.below(8)]
			what := fmt.Sprintf("walk %d, step %d, %d to %d", seed, i, from, to)
			top := flows.Most(graphs.Of(l, 1), from, to)
			want := int64(1 + d.below(30))
			pushes, got := flows.Route(graphs.Of(l, 1), from, to, want)
			if got != min(want, top) {
				t.Fatalf("%s: got %d of %d, but %d goes", what, got, want, top)
			}
			was, others := positions(l, 1), positions(l, 2)
			for _, x := range pushes {
				if e := l.Push(x.From, x.To, 1, x.N); e != api.OK {
					t.Fatalf("%s: Push(%v): %v", what, x, e)
				}
			}
			more := positions(l, 1)
			for p := range more {
				more[p] -= was[p]
			}
			moved(t, what, more, from, to, got)
			for p, n := range positions(l, 2) {
				if n != others[p] {
					t.Fatalf("%s: %d has %d of another currency, not %d", what, p, n, others[p])
				}
			}
			for _, x := range l.Lines() {
				if x.Debt < 0 || x.Debt > x.Limit {
					t.Fatalf("%s: the line %v", what, x)
				}
			}
			if got == want {
				went++
			} else {
				refused++
			}
		}
	}
	if went < 500 || refused < 500 {
		t.Errorf("%d times all went, %d times less", went, refused)
	}
}
