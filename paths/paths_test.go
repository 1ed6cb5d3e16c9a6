package paths_test

import (
	"fmt"
	"slices"
	"testing"

	"countinghouse/api"
	"countinghouse/graphs"
	"countinghouse/ledgers"
	"countinghouse/paths"
)

// to is an edge of a graph, of 1.
func to(a, b api.Party) api.Flow { return api.Flow{From: a, To: b, N: 1} }

// at is an edge with a cost.
func at(a, b api.Party, cost int8) paths.Edge { return paths.Edge{From: a, To: b, Cost: cost} }

func way(l ...api.Party) []api.Party { return l }

func made(t *testing.T, edges ...api.Flow) *graphs.Graph {
	t.Helper()
	g, e := graphs.New(edges)
	if e != api.OK || g == nil {
		t.Fatalf("New(%v): %v", edges, e)
	}
	return g
}

// short asks for a way, and whether the answer is memory of its own, with nothing in its room behind, and leaves the graph.
func short(t *testing.T, what string, g *graphs.Graph, from, to api.Party, want ...api.Party) {
	t.Helper()
	was := g.Edges()
	got := paths.Short(g, from, to)
	if !slices.Equal(got, want) || cap(got) != len(got) {
		t.Fatalf("%s: Short(%d, %d): %v in %d, not %v", what, from, to, got, cap(got), want)
	}
	clear(got)
	if again := paths.Short(g, from, to); !slices.Equal(again, want) {
		t.Fatalf("%s: Short(%d, %d): %v, not %v any more", what, from, to, again, want)
	}
	if !slices.Equal(g.Edges(), was) {
		t.Fatalf("%s: Short(%d, %d): the graph is %v, not %v", what, from, to, g.Edges(), was)
	}
}

// round asks for one in the same manner.
func round(t *testing.T, what string, edges []paths.Edge, want ...api.Party) {
	t.Helper()
	was := slices.Clone(edges)
	got := paths.Round(edges)
	if !slices.Equal(got, want) || cap(got) != len(got) {
		t.Fatalf("%s: Round(%v): %v in %d, not %v", what, edges, got, cap(got), want)
	}
	clear(got)
	if again := paths.Round(edges); !slices.Equal(again, want) {
		t.Fatalf("%s: Round(%v): %v, not %v any more", what, edges, again, want)
	}
	if !slices.Equal(edges, was) {
		t.Fatalf("%s: Round: the edges are %v, not %v", what, edges, was)
	}
}

// chain goes from a party to the next one, up to all, and back to the first one if it is closed.
func chain(closed bool, parties ...api.Party) (l [][2]api.Party) {
	for i, p := range parties[1:] {
		l = append(l, [2]api.Party{parties[i], p})
	}
	if closed {
		l = append(l, [2]api.Party{parties[len(parties)-1], parties[0]})
	}
	return l
}

// flows are a chain as edges of a graph.
func flows(parties ...api.Party) (l []api.Flow) {
	for _, ends := range chain(false, parties...) {
		l = append(l, to(ends[0], ends[1]))
	}
	return l
}

// costing is a chain as edges with costs, the last of the costs for all that have none.
func costing(closed bool, parties []api.Party, costs ...int8) (l []paths.Edge) {
	for i, ends := range chain(closed, parties...) {
		l = append(l, at(ends[0], ends[1], costs[min(i, len(costs)-1)]))
	}
	return l
}

// all parties, rising.
func all() (l []api.Party) {
	for p := range api.Party(16) {
		l = append(l, p+1)
	}
	return l
}

// turned is a list from its end on.
func turned[T any](l []T) []T {
	l = slices.Clone(l)
	slices.Reverse(l)
	return l
}

// full has an edge from each party to each other one.
func full() (l []api.Flow) {
	for _, a := range all() {
		for _, b := range all() {
			if a != b {
				l = append(l, to(a, b))
			}
		}
	}
	return l
}

// The document's examples.
func TestExamples(t *testing.T) {
	g := made(t, to(1, 2), to(2, 4), to(1, 3), to(3, 4), to(2, 3))
	short(t, "example", g, 1, 4, 1, 2, 4)
	short(t, "example", g, 4, 1)
	round(t, "example", []paths.Edge{at(1, 2, 1), at(2, 3, 1), at(3, 1, -3)}, 1, 2, 3)
	round(t, "example", []paths.Edge{at(1, 2, 1), at(2, 1, -1)})
	round(t, "example", []paths.Edge{at(3, 3, -1)}, 3)
}

// P6.1: the fewest parties; of as few the least ones, party by party from the first on.
func TestShort(t *testing.T) {
	for i, c := range []struct {
		edges    []api.Flow
		from, to api.Party
		want     []api.Party
	}{
		{flows(1, 2), 1, 2, way(1, 2)},
		{flows(2, 1), 2, 1, way(2, 1)},
		{flows(7, 3, 12, 5), 7, 5, way(7, 3, 12, 5)},
		{flows(7, 3, 12, 5), 3, 12, way(3, 12)},
		// Fewer parties count first, however great they are.
		{slices.Concat(flows(1, 2, 3, 9), flows(1, 16, 9)), 1, 9, way(1, 16, 9)},
		{slices.Concat(flows(1, 2, 3, 9), flows(1, 9)), 1, 9, way(1, 9)},
		{slices.Concat(flows(1, 2, 3, 4, 9), flows(1, 16, 15, 9)), 1, 9, way(1, 16, 15, 9)},
		// Two shortest ways, whichever came first in the list.
		{slices.Concat(flows(1, 5, 9), flows(1, 6, 9)), 1, 9, way(1, 5, 9)},
		{slices.Concat(flows(1, 6, 9), flows(1, 5, 9)), 1, 9, way(1, 5, 9)},
		{slices.Concat(flows(16, 15, 1), flows(16, 2, 1)), 16, 1, way(16, 2, 1)},
		{slices.Concat(flows(8, 10, 3), flows(8, 9, 3)), 8, 3, way(8, 9, 3)},
		{slices.Concat(flows(8, 11, 3), flows(8, 2, 3)), 8, 3, way(8, 2, 3)},
		// Of the ways 1 2 9 16 and 1 3 4 16 the parties nearest to the first one tell, not those nearest to the last one.
		{slices.Concat(flows(1, 2, 9, 16), flows(1, 3, 4, 16)), 1, 16, way(1, 2, 9, 16)},
		{slices.Concat(flows(1, 3, 4, 16), flows(1, 2, 9, 16)), 1, 16, way(1, 2, 9, 16)},
		{slices.Concat(flows(1, 9, 2, 16), flows(1, 4, 3, 16)), 1, 16, way(1, 4, 3, 16)},
		{slices.Concat(flows(1, 2, 8, 5, 16), flows(2, 7, 6, 16)), 1, 16, way(1, 2, 7, 6, 16)},
		// Ways that part and meet again: 1 over 2 or 3 to 4, on over 5 or 6 to 7.
		{slices.Concat(flows(1, 3, 4, 6, 7), flows(1, 2, 4, 5, 7)), 1, 7, way(1, 2, 4, 5, 7)},
		{slices.Concat(flows(1, 12, 4, 6, 7), flows(1, 13, 4, 15, 7)), 1, 7, way(1, 12, 4, 6, 7)},
		// Ways that lead back don't count, nor those that lead on.
		{flows(1, 2, 1), 2, 1, way(2, 1)},
		{slices.Concat(flows(1, 2, 3), flows(3, 1), flows(2, 1)), 1, 3, way(1, 2, 3)},
		{flows(4, 2, 8, 16), 4, 8, way(4, 2, 8)},
		// Without a way: none at all, one the wrong way only, one that ends ahead, one that begins behind.
		{nil, 1, 2, nil},
		{flows(1, 2), 2, 1, nil},
		{flows(1, 2, 3), 3, 1, nil},
		{slices.Concat(flows(1, 2, 3), flows(5, 4)), 1, 5, nil},
		{slices.Concat(flows(1, 2, 3), flows(4, 5)), 1, 5, nil},
		{flows(2, 3), 1, 3, nil},
		// The least and the greatest party, as ends and between.
		{flows(1, 16), 1, 16, way(1, 16)},
		{flows(16, 1), 16, 1, way(16, 1)},
		{flows(2, 16, 1, 15), 2, 15, way(2, 16, 1, 15)},
		// A way of all parties.
		{flows(all()...), 1, 16, all()},
		{flows(turned(all())...), 16, 1, turned(all())},
		{flows(9, 1, 16, 2, 15, 3, 14, 4, 13, 5, 12, 6, 11, 7, 10, 8), 9, 8, way(9, 1, 16, 2, 15, 3, 14, 4, 13, 5, 12, 6, 11, 7, 10, 8)},
	} {
		short(t, fmt.Sprint(i), made(t, c.edges...), c.from, c.to, c.want...)
	}
}

// P6.1: an edge is a capacity above 0, however great; where it is 0 there is none, nor where it was used up.
func TestShortAsksForEdgesOnly(t *testing.T) {
	g := made(t, api.Flow{From: 1, To: 2, N: 0}, api.Flow{From: 1, To: 3, N: 2 * api.MaxAmount}, to(3, 2), to(1, 4), api.Flow{From: 4, To: 2, N: 9})
	short(t, "capacities", g, 1, 2, 1, 3, 2)
	short(t, "capacities", g, 2, 1)
	g.Push(3, 2, 1)
	short(t, "used up", g, 1, 2, 1, 4, 2)
	short(t, "the way back", g, 2, 3, 2, 3)
	short(t, "the way back", g, 2, 1)
	g.Push(4, 2, 8)
	short(t, "one is left", g, 1, 2, 1, 4, 2)
	g.Push(4, 2, 1)
	short(t, "nothing is left", g, 1, 2)
	g.Push(1, 4, 1)
	short(t, "back all the way", g, 2, 1, 2, 4, 1)
}

// P6.1: of a ledger's graph.
func TestShortOfLedger(t *testing.T) {
	l := ledgers.New()
	for _, p := range []api.Party{1, 2, 3, 16} {
		l.Open(p)
	}
	for _, x := range [][2]api.Party{{2, 1}, {3, 2}, {16, 3}} {
		if e := l.Trust(x[0], x[1], 1, 5); e != api.OK {
			t.Fatal(e)
		}
	}
	short(t, "ledger", graphs.Of(l, 1), 1, 16, 1, 2, 3, 16)
	short(t, "ledger", graphs.Of(l, 1), 16, 1)
	short(t, "another currency", graphs.Of(l, 2), 1, 16)
	short(t, "no ledger", graphs.Of(nil, 1), 1, 16)
}

// P6.1: each number that a party could have: where there is an edge, it is the way; from none to itself is one, nor from or to what is no party.
func TestShortOfEachParty(t *testing.T) {
	g := made(t, full()...)
	for a := range 256 {
		for b := range 256 {
			var want []api.Party
			if a >= 1 && a <= 16 && b >= 1 && b <= 16 && a != b {
				want = way(api.Party(a), api.Party(b))
			}
			short(t, "full", g, api.Party(a), api.Party(b), want...)
		}
	}
}

// P6.1: both the same: none, though a way leads round.
func TestShortToItself(t *testing.T) {
	g := made(t, to(1, 2), to(2, 1), to(2, 16), to(16, 1))
	for _, p := range all() {
		short(t, "to itself", g, p, p)
	}
}

// R1, R3: without a graph, or with one that no call made or that has nothing, there is no way.
func TestShortOfNothing(t *testing.T) {
	for i, g := range []*graphs.Graph{nil, {}, new(graphs.Graph), made(t), made(t, api.Flow{From: 1, To: 2})} {
		for _, a := range []api.Party{0, 1, 2, 16, 17, 255} {
			for _, b := range []api.Party{0, 1, 2, 16, 17, 255} {
				short(t, fmt.Sprint(i), g, a, b)
			}
		}
	}
}

// P6.2: what costs less than 0 is a round; it begins with its least party, and goes the edges' way.
func TestRound(t *testing.T) {
	for i, c := range []struct {
		edges []paths.Edge
		want  []api.Party
	}{
		{nil, nil},
		{[]paths.Edge{}, nil},
		{[]paths.Edge{at(1, 2, -1)}, nil},
		{[]paths.Edge{at(1, 2, -128), at(2, 3, -128), at(1, 3, -128)}, nil},
		// What costs 0, and 1 less, 1 more.
		{costing(true, way(1, 2), 1, -1), nil},
		{costing(true, way(1, 2), 1, -2), way(1, 2)},
		{costing(true, way(1, 2), 2, -1), nil},
		{costing(true, way(1, 2), 0), nil},
		{costing(true, way(1, 2), 0, -1), way(1, 2)},
		{costing(true, way(1, 2), -1, 0), way(1, 2)},
		{costing(true, way(1, 2), 127, -127), nil},
		{costing(true, way(1, 2), 127, -128), way(1, 2)},
		{costing(true, way(1, 2), -128), way(1, 2)},
		{costing(true, way(5, 3, 4), 2, -4, 2), nil},
		{costing(true, way(5, 3, 4), 2, -5, 2), way(3, 4, 5)},
		// The least party first, whichever begins the list; the edges' way, not the other one.
		{costing(true, way(1, 2, 3), -1), way(1, 2, 3)},
		{costing(true, way(2, 3, 1), -1), way(1, 2, 3)},
		{costing(true, way(3, 1, 2), -1), way(1, 2, 3)},
		{costing(true, way(3, 2, 1), -1), way(1, 3, 2)},
		{costing(true, way(9, 4, 16, 10, 15), -1), way(4, 16, 10, 15, 9)},
		{turned(costing(true, way(9, 4, 16, 10, 15), -1)), way(4, 16, 10, 15, 9)},
		// From a party to itself.
		{[]paths.Edge{at(3, 3, -128)}, way(3)},
		{[]paths.Edge{at(3, 3, 0)}, nil},
		{[]paths.Edge{at(3, 3, 127)}, nil},
		{[]paths.Edge{at(1, 1, -1)}, way(1)},
		{[]paths.Edge{at(16, 16, -1)}, way(16)},
		{append(costing(true, way(1, 2, 3), 0), at(2, 2, -1)), way(2)},
		{append(costing(true, way(1, 2, 3), -1), at(2, 2, 0)), way(1, 2, 3)},
		// The least and the greatest party.
		{costing(true, way(1, 16), -1), way(1, 16)},
		{costing(true, way(16, 1), -1), way(1, 16)},
		{costing(true, way(16, 15), -1), way(15, 16)},
		// Two edges of the same ends: the least cost counts, wherever it stands.
		{[]paths.Edge{at(1, 2, 5), at(1, 2, -1), at(2, 1, 0)}, way(1, 2)},
		{[]paths.Edge{at(1, 2, -1), at(1, 2, 5), at(2, 1, 0)}, way(1, 2)},
		{[]paths.Edge{at(1, 2, -1), at(2, 1, 0), at(1, 2, 5)}, way(1, 2)},
		{[]paths.Edge{at(1, 2, 5), at(1, 2, 1), at(2, 1, -1)}, nil},
		{[]paths.Edge{at(1, 2, -1), at(1, 2, -1), at(1, 2, -1), at(2, 1, 1)}, nil},
		{[]paths.Edge{at(4, 4, 3), at(4, 4, -1), at(4, 4, 0)}, way(4)},
	} {
		round(t, fmt.Sprint(i), c.edges, c.want...)
	}
}

// P6.2: of several rounds the one that the search comes to, which need be neither the cheapest nor the first.
func TestRoundOfSeveral(t *testing.T) {
	for i, c := range []struct {
		edges []paths.Edge
		want  []api.Party
	}{
		// Two that have nothing to do with one another: the distance that changed last is of the later one.
		{slices.Concat(costing(true, way(1, 2), -1, 0), costing(true, way(3, 4), -1, 0)), way(3, 4)},
		{slices.Concat(costing(true, way(3, 4), -1, 0), costing(true, way(1, 2), -1, 0)), way(1, 2)},
		{slices.Concat(costing(true, way(1, 2), -128), costing(true, way(3, 4), -1, 0)), way(3, 4)},
		{[]paths.Edge{at(1, 1, -1), at(2, 2, -1), at(3, 3, -1)}, way(3)},
		{[]paths.Edge{at(3, 3, -1), at(2, 2, -1), at(1, 1, -1)}, way(1)},
		{[]paths.Edge{at(1, 1, -1), at(2, 2, -1), at(3, 3, 0)}, way(2)},
		// Two with a party in common: the step to it that came last is of the later one.
		{slices.Concat(costing(true, way(1, 2), -1, 0), costing(true, way(1, 3), -1, 0)), way(1, 3)},
		{slices.Concat(costing(true, way(1, 3), -1, 0), costing(true, way(1, 2), -1, 0)), way(1, 2)},
		// One that leads to another one, ahead of it in the list and behind it.
		{slices.Concat(costing(true, way(1, 2), -5, 0), []paths.Edge{at(2, 3, 0)}, costing(true, way(3, 4), -1, 0)), way(3, 4)},
		{slices.Concat(costing(true, way(3, 4), -1, 0), costing(true, way(1, 2), -5, 0), []paths.Edge{at(2, 3, 0)}), way(1, 2)},
		// A change is seen by the edges behind it in the same time: else it would be 2, 3.
		{[]paths.Edge{at(3, 1, -2), at(3, 2, -4), at(2, 3, -3), at(1, 1, -3)}, way(1)},
		// By turns it is 1 alone, and this one; MaxParties times end with this one.
		{[]paths.Edge{at(2, 3, -1), at(1, 1, -2), at(1, 2, -3), at(3, 1, 1)}, way(1, 2, 3)},
	} {
		round(t, fmt.Sprint(i), c.edges, c.want...)
	}
}

// P6.2: from the party whose distance changed last the round may be far, up to all other parties.
func TestRoundAhead(t *testing.T) {
	round(t, "two behind", slices.Concat(costing(true, way(1, 2), -1, 0), costing(false, way(2, 3, 4), 0)), 1, 2)
	round(t, "its least party is greater", slices.Concat(costing(true, way(9, 7), -1, 0), costing(false, way(7, 3, 1), 0)), 7, 9)
	round(t, "what leads to it", slices.Concat(costing(false, way(3, 4, 1), -1), costing(true, way(1, 2), -1, 0)), 1, 2)
	for _, parties := range [][]api.Party{all(), turned(all())} {
		for many := range 15 {
			what := fmt.Sprint(many+1, " behind ", parties[0])
			alone, tail := at(parties[0], parties[0], -1), costing(false, parties[:many+2], 0)
			round(t, what, append([]paths.Edge{alone}, tail...), parties[0])
			round(t, what+", turned", append(turned(tail), alone), parties[0])
		}
	}
}

// P6.2: where no round is, the last distance may change in the last time but one: a way of all parties, edge by edge the wrong way.
func TestRoundOfLongWay(t *testing.T) {
	edges := turned(costing(false, all(), -1))
	round(t, "without a round", edges)
	round(t, "a round of 0", append(edges, at(16, 1, 15)))
	round(t, "a round of -1", append(edges, at(16, 1, 14)), all()...)
	round(t, "a round of -1, told first", append([]paths.Edge{at(16, 1, 14)}, edges...), all()...)
}

// P6.2: rounds of 1 to all parties, in the list's order and turned, of 0 and of 1 less.
func TestRoundOfEachLength(t *testing.T) {
	parties := way(9, 1, 16, 2, 15, 3, 14, 4, 13, 5, 12, 6, 11, 7, 10, 8)
	for many := range 16 {
		some := parties[:many+1]
		least := slices.Index(some, slices.Min(some))
		want := slices.Concat(some[least:], some[:least])
		for i, cost := range []int8{int8(many), int8(many - 1)} {
			edges := costing(true, some, cost, -1)
			for _, l := range [][]paths.Edge{edges, turned(edges)} {
				if i == 0 {
					round(t, fmt.Sprint(many+1, " of 0"), l)
				} else {
					round(t, fmt.Sprint(many+1, " of -1"), l, want...)
				}
			}
		}
	}
}

// P6.2: edges whose ends are not parties are let go: they make no round, and are in no one's way.
func TestRoundLetsGo(t *testing.T) {
	strangers := []paths.Edge{}
	for _, no := range []api.Party{0, 17, 18, 128, 255} {
		strangers = append(strangers, at(no, no, -128), at(no, 1, -128), at(1, no, -128), at(no, 16, -1), at(16, no, -1), at(no, 17, -1), at(0, no, -1))
	}
	for _, x := range strangers {
		round(t, "alone", []paths.Edge{x})
		round(t, "both ways", []paths.Edge{x, at(x.To, x.From, x.Cost)})
	}
	round(t, "all", strangers)
	for _, edges := range [][]paths.Edge{
		costing(true, way(1, 16, 2), 1, 1, -2),
		costing(true, way(1, 16, 2), 1, 1, -3),
	} {
		want := paths.Round(edges)
		if (len(want) > 0) != (edges[2].Cost == -3) {
			t.Fatalf("Round(%v): %v", edges, want)
		}
		round(t, "ahead", slices.Concat(edges, strangers), want...)
		round(t, "behind", slices.Concat(strangers, edges), want...)
		between := slices.Concat(edges[:1], strangers, edges[1:2], strangers, edges[2:])
		round(t, "between", between, want...)
	}
}

// R1: the longest lists end as others do: distances that fall below what 8, 16 and 32 bits hold are less still.
func TestRoundOfLongLists(t *testing.T) {
	for _, many := range []int{1, 2, 300, 1200000} {
		edges := slices.Repeat([]paths.Edge{at(7, 7, -128)}, many)
		if got := paths.Round(edges); !slices.Equal(got, way(7)) {
			t.Errorf("%d times: %v", many, got)
		}
		edges = slices.Repeat([]paths.Edge{at(7, 8, -128), at(8, 7, 127)}, many)
		if got := paths.Round(edges); !slices.Equal(got, way(7, 8)) {
			t.Errorf("%d times both ways: %v", many, got)
		}
		edges = slices.Repeat([]paths.Edge{at(7, 8, -127), at(8, 7, 127)}, many)
		if got := paths.Round(edges); got != nil {
			t.Errorf("%d times, of 0: %v", many, got)
		}
	}
}

// R1: what is handed in is not kept.
func TestRoundKeepsNothing(t *testing.T) {
	edges := costing(true, way(1, 2, 3), -1)
	got := paths.Round(edges)
	clear(edges)
	if !slices.Equal(got, way(1, 2, 3)) {
		t.Errorf("what is written over: %v", got)
	}
	if again := paths.Round(edges); len(again) != 0 {
		t.Errorf("of noughts: %v", again)
	}
}
