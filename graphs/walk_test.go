package graphs_test

import (
	"fmt"
	"slices"
	"testing"

	"countinghouse/api"
	"countinghouse/graphs"
	"countinghouse/ledgers"
)

// plain is a graph as the document's words have it: capacities by their ends, of any numbers that come.
type plain map[[2]api.Party]int64

func (m plain) edges() []api.Flow {
	var all []api.Flow
	for a := range api.Party(18) {
		for b := range api.Party(18) {
			if n := m[[2]api.Party{a, b}]; n > 0 {
				all = append(all, to(a, b, n))
			}
		}
	}
	return all
}

func (m plain) push(x api.Flow) api.Errno {
	if x.N < 1 {
		return api.ErrArg
	}
	if x.N > m[[2]api.Party{x.From, x.To}] {
		return api.ErrRoute
	}
	m[[2]api.Party{x.From, x.To}] -= x.N
	m[[2]api.Party{x.To, x.From}] += x.N
	return api.OK
}

// dice throws the same numbers in each run.
type dice uint64

func (d *dice) below(n int) int {
	*d = *d*6364136223846793005 + 1442695040888963407
	return int(*d >> 33 % dice(n))
}

func (d *dice) party() api.Party {
	if d.below(20) == 0 {
		return []api.Party{0, 17, 255, 16}[d.below(4)]
	}
	return api.Party(1 + d.below(5))
}

// amount: mostly a small one; sometimes one at a bound, or beside it.
func (d *dice) amount(bound int64) int64 {
	switch d.below(8) {
	case 0:
		return bound
	case 1:
		return bound + 1
	case 2:
		return []int64{-1, 0, 1, amount, twice, twice + 1, most, least}[d.below(8)]
	}
	return int64(d.below(30))
}

// edges are some that may be, in any order, and what they come to.
func (d *dice) edges() ([]api.Flow, plain) {
	var list []api.Flow
	m := plain{}
	for range d.below(25) {
		x := to(api.Party(1+d.below(5)), api.Party(1+d.below(5)), d.amount(twice))
		ends := [2]api.Party{x.From, x.To}
		if _, came := m[ends]; came || x.From == x.To || x.N < 0 || x.N > twice {
			continue
		}
		m[ends] = x.N
		list = append(list, x)
	}
	return list, m
}

// pairs are what the capacities of each pair, both ways, come to.
func pairs(g *graphs.Graph) map[[2]api.Party]int64 {
	all := map[[2]api.Party]int64{}
	for _, x := range g.Edges() {
		all[[2]api.Party{min(x.From, x.To), max(x.From, x.To)}] += x.N
	}
	return all
}

// P5.1 to P5.4: whatever comes, a graph is what the plain one is, and the capacities of each pair, both ways, come to the same.
func TestWalk(t *testing.T) {
	seen := map[api.Errno]int{}
	for seed := range 60 {
		d := dice(seed)
		list, m := d.edges()
		g := made(t, list...)
		holds(t, fmt.Sprint("walk ", seed), g, m.edges()...)
		sums := pairs(g)
		for i := range 200 {
			x := to(d.party(), d.party(), 0)
			x.N = d.amount(m[[2]api.Party{x.From, x.To}])
			what := fmt.Sprintf("walk %d, step %d: Push(%v)", seed, i, x)
			got, want := g.Push(x.From, x.To, x.N), m.push(x)
			if got != want {
				t.Fatalf("%s: %v, not %v", what, got, want)
			}
			seen[got]++
			holds(t, what, g, m.edges()...)
			for ends, sum := range pairs(g) {
				if sum != sums[ends] {
					t.Fatalf("%s: the pair %v comes to %d, not %d", what, ends, sum, sums[ends])
				}
			}
			if i%20 == 0 {
				g = g.Copy()
			}
		}
	}
	for _, e := range []api.Errno{api.OK, api.ErrArg, api.ErrRoute} {
		if seen[e] < 500 {
			t.Errorf("%v came %d times only", e, seen[e])
		}
	}
}

// opened is a ledger with parties and lines, some of them both ways, in the currencies 1 and 2.
func (d *dice) opened() *ledgers.Ledger {
	l := ledgers.New()
	for _, p := range []api.Party{1, 2, 3, 5, 16} {
		l.Open(p)
	}
	for range 30 {
		l.Trust(d.party(), d.party(), api.Currency(1+d.below(2)), d.amount(amount))
	}
	return l
}

// rooms holds each capacity of a ledger's graph against the ledger's room.
func rooms(t *testing.T, what string, g *graphs.Graph, l *ledgers.Ledger, c api.Currency) {
	t.Helper()
	for a := range api.Party(18) {
		for b := range api.Party(18) {
			if got, want := g.Cap(a, b), l.Room(a, b, c); got != want {
				t.Fatalf("%s: Cap(%d, %d): %d, but the room is %d", what, a, b, got, want)
			}
		}
	}
}

// P5.4: what is pushed in a ledger's graph may be pushed in the ledger, and the other way round, and what may not be in the one may not be in the other one; behind such pushes the ledger's graph is that graph.
func TestWalkOfLedgers(t *testing.T) {
	seen := map[api.Errno]int{}
	for seed := range 40 {
		d := dice(seed)
		l := d.opened()
		g, other := graphs.Of(l, 1), graphs.Of(l, 2)
		sums := pairs(g)
		for i := range 200 {
			x := to(d.party(), d.party(), 0)
			x.N = d.amount(l.Room(x.From, x.To, 1))
			what := fmt.Sprintf("walk %d, step %d: Push(%v)", seed, i, x)
			var inGraph, inLedger api.Errno
			if i%2 == 0 {
				inGraph = g.Push(x.From, x.To, x.N)
				inLedger = l.Push(x.From, x.To, 1, x.N)
			} else {
				inLedger = l.Push(x.From, x.To, 1, x.N)
				inGraph = g.Push(x.From, x.To, x.N)
			}
			if inGraph != inLedger {
				t.Fatalf("%s: %v in the graph, %v in the ledger", what, inGraph, inLedger)
			}
			seen[inGraph]++
			rooms(t, what, g, l, 1)
			now := graphs.Of(l, 1)
			if !now.Same(g) || !slices.Equal(now.Edges(), g.Edges()) || !graphs.Of(l, 2).Same(other) {
				t.Fatalf("%s: the ledger's graph is %v, not %v", what, now.Edges(), g.Edges())
			}
			for ends, sum := range pairs(now) {
				if sum != sums[ends] {
					t.Fatalf("%s: the pair %v comes to %d, not %d", what, ends, sum, sums[ends])
				}
			}
		}
	}
	for _, e := range []api.Errno{api.OK, api.ErrArg, api.ErrRoute} {
		if seen[e] < 200 {
			t.Errorf("%v came %d times only", e, seen[e])
		}
	}
}
