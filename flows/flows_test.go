package flows_test

import (
	"fmt"
	"math"
	"slices"
	"testing"

	"countinghouse/api"
	"countinghouse/flows"
	"countinghouse/graphs"
	"countinghouse/ledgers"
)

const (
	twice = 2 * api.MaxAmount
	most  = math.MaxInt64
	least = math.MinInt64
)

// to is an edge, or a push, as the document's examples have it: from one to the other one, so much.
func to(a, b api.Party, n int64) api.Flow { return api.Flow{From: a, To: b, N: n} }

// along is so much from each party to the next one: edges of that capacity, or the pushes along a way.
func along(n int64, parties ...api.Party) (l []api.Flow) {
	for i, p := range parties[1:] {
		l = append(l, to(parties[i], p, n))
	}
	return l
}

func made(t *testing.T, edges ...api.Flow) *graphs.Graph {
	t.Helper()
	g, e := graphs.New(edges)
	if e != api.OK || g == nil {
		t.Fatalf("New(%v): %v", edges, e)
	}
	return g
}

// route asks for one, and whether the answer is memory of its own, with nothing in its room behind, and the graph stays, of which a second one answers the same.
func route(t *testing.T, what string, g *graphs.Graph, from, to api.Party, want int64, got int64, pushes ...api.Flow) {
	t.Helper()
	what = fmt.Sprintf("%s: Route(%d, %d, %d)", what, from, to, want)
	was, edges := g.Copy(), g.Edges()
	l, n := flows.Route(g, from, to, want)
	if !slices.Equal(l, pushes) || n != got || cap(l) != len(l) {
		t.Fatalf("%s: %v in %d, %d; not %v, %d", what, l, cap(l), n, pushes, got)
	}
	clear(l)
	if l, n = flows.Route(g, from, to, want); !slices.Equal(l, pushes) || n != got {
		t.Fatalf("%s: %v, %d any more; not %v, %d", what, l, n, pushes, got)
	}
	if !g.Same(was) || !slices.Equal(g.Edges(), edges) {
		t.Fatalf("%s: the graph is %v, not %v", what, g.Edges(), edges)
	}
}

// goes asks for what goes at most in the same manner.
func goes(t *testing.T, what string, g *graphs.Graph, from, to api.Party, want int64) {
	t.Helper()
	edges := g.Edges()
	for range 2 {
		if got := flows.Most(g, from, to); got != want {
			t.Fatalf("%s: Most(%d, %d): %d, not %d", what, from, to, got, want)
		}
	}
	if !slices.Equal(g.Edges(), edges) {
		t.Fatalf("%s: Most(%d, %d): the graph is %v, not %v", what, from, to, g.Edges(), edges)
	}
}

// all parties, rising.
func all() (l []api.Party) {
	for p := range api.Party(16) {
		l = append(l, p+1)
	}
	return l
}

// turned is a list from its end on.
func turned[T any](l []T) []T {
	l = slices.Clone(l)
	slices.Reverse(l)
	return l
}

// full has an edge from each party to each other one.
func full(n int64) (l []api.Flow) {
	for _, a := range all() {
		for _, b := range all() {
			if a != b {
				l = append(l, to(a, b, n))
			}
		}
	}
	return l
}

// The document's examples.
func TestExamples(t *testing.T) {
	g := made(t, to(1, 2, 3), to(2, 4, 2), to(1, 3, 2), to(3, 4, 9), to(2, 3, 5))
	route(t, "example", g, 1, 4, 4, 4, to(1, 2, 2), to(2, 4, 2), to(1, 3, 2), to(3, 4, 2))
	route(t, "example", g, 1, 4, 9, 5, to(1, 2, 2), to(2, 4, 2), to(1, 3, 2), to(3, 4, 2), to(1, 2, 1), to(2, 3, 1), to(3, 4, 1))
	goes(t, "example", g, 1, 4, 5)
	route(t, "example", g, 4, 1, 1, 0)
}

// A waying is a way, and how much is pushed along it.
type waying struct {
	n       int64
	parties []api.Party
}

func over(n int64, parties ...api.Party) waying { return waying{n, parties} }

// cut is what is pushed, and got, of ways one behind the other, if no more than so much is wanted.
func cut(ways []waying, want int64) (pushes []api.Flow, got int64) {
	for _, w := range ways {
		if n := min(w.n, want-got); n > 0 {
			pushes = append(pushes, along(n, w.parties...)...)
			got += n
		}
	}
	return pushes, got
}

// P7.1 to P7.3: ways one behind the other, by hand; of each graph whatever may be wanted: nothing, and less; from 1 to what goes at most, and more; the greatest number.
func TestRoute(t *testing.T) {
	for i, c := range []struct {
		edges    []api.Flow
		from, to api.Party
		ways     []waying
	}{
		{along(5, 1, 2), 1, 2, []waying{over(5, 1, 2)}},
		{along(1, 2, 1), 2, 1, []waying{over(1, 2, 1)}},
		{along(4, 16, 1), 16, 1, []waying{over(4, 16, 1)}},
		{along(3, 7, 3, 12, 5), 7, 5, []waying{over(3, 7, 3, 12, 5)}},
		{along(3, 7, 3, 12, 5), 3, 12, []waying{over(3, 3, 12)}},
		// Edges of unlike capacities: the least one tells, wherever it stands.
		{[]api.Flow{to(1, 2, 2), to(2, 3, 7), to(3, 4, 9)}, 1, 4, []waying{over(2, 1, 2, 3, 4)}},
		{[]api.Flow{to(1, 2, 9), to(2, 3, 2), to(3, 4, 7)}, 1, 4, []waying{over(2, 1, 2, 3, 4)}},
		{[]api.Flow{to(1, 2, 7), to(2, 3, 9), to(3, 4, 2)}, 1, 4, []waying{over(2, 1, 2, 3, 4)}},
		{[]api.Flow{to(1, 2, 7), to(2, 3, 3), to(3, 4, 3)}, 1, 4, []waying{over(3, 1, 2, 3, 4)}},
		// Two shortest ways: the least one comes first, party by party, whichever stands first in the list, and has more.
		{slices.Concat(along(2, 1, 5, 9), along(3, 1, 6, 9)), 1, 9, []waying{over(2, 1, 5, 9), over(3, 1, 6, 9)}},
		{slices.Concat(along(2, 1, 6, 9), along(3, 1, 5, 9)), 1, 9, []waying{over(3, 1, 5, 9), over(2, 1, 6, 9)}},
		{slices.Concat(along(1, 8, 11, 3), along(4, 8, 2, 3), along(2, 8, 16, 3)), 8, 3, []waying{over(4, 8, 2, 3), over(1, 8, 11, 3), over(2, 8, 16, 3)}},
		{slices.Concat(along(2, 1, 3, 4, 16), along(2, 1, 2, 9, 16)), 1, 16, []waying{over(2, 1, 2, 9, 16), over(2, 1, 3, 4, 16)}},
		{slices.Concat(along(2, 1, 9, 2, 16), along(2, 1, 4, 3, 16)), 1, 16, []waying{over(2, 1, 4, 3, 16), over(2, 1, 9, 2, 16)}},
		// Fewer parties come first, however great they are, and however little goes.
		{slices.Concat(along(9, 1, 2, 3, 9), along(1, 1, 16, 9)), 1, 9, []waying{over(1, 1, 16, 9), over(9, 1, 2, 3, 9)}},
		{slices.Concat(along(9, 1, 2, 9), along(1, 1, 9)), 1, 9, []waying{over(1, 1, 9), over(9, 1, 2, 9)}},
		// Ways with an edge in common: what an earlier one left of it.
		{slices.Concat(along(5, 1, 2), along(3, 2, 3, 9), along(4, 2, 4, 9)), 1, 9, []waying{over(3, 1, 2, 3, 9), over(2, 1, 2, 4, 9)}},
		{slices.Concat(along(3, 1, 2, 4), along(4, 1, 3, 4), along(5, 4, 9)), 1, 9, []waying{over(3, 1, 2, 4, 9), over(2, 1, 3, 4, 9)}},
		{slices.Concat(along(2, 1, 9), along(2, 1, 2, 3, 9), along(1, 2, 9)), 1, 9, []waying{over(2, 1, 9), over(1, 1, 2, 9), over(1, 1, 2, 3, 9)}},
		// What an earlier way gave is taken back: 2 to 3 goes back.
		{slices.Concat(along(1, 1, 2, 3, 9), along(1, 1, 4, 5, 3), along(1, 2, 6, 7, 9)), 1, 9, []waying{over(1, 1, 2, 3, 9), over(1, 1, 4, 5, 3, 2, 6, 7, 9)}},
		// A part of it only.
		{slices.Concat(along(5, 1, 2, 3, 9), along(2, 1, 4, 5, 3), along(3, 2, 6, 7, 9)), 1, 9, []waying{over(5, 1, 2, 3, 9), over(2, 1, 4, 5, 3, 2, 6, 7, 9)}},
		{slices.Concat(along(2, 1, 2, 3, 9), along(5, 1, 4, 5, 3), along(5, 2, 6, 7, 9)), 1, 9, []waying{over(2, 1, 2, 3, 9), over(2, 1, 4, 5, 3, 2, 6, 7, 9)}},
		// And more than that, for 3 lets go to 2 by itself, too.
		{slices.Concat(along(2, 1, 2, 3, 9), along(5, 1, 4, 5, 3), along(5, 2, 6, 7, 9), along(1, 3, 2)), 1, 9, []waying{over(2, 1, 2, 3, 9), over(3, 1, 4, 5, 3, 2, 6, 7, 9)}},
		// Back over two edges at once, by two ways.
		{slices.Concat(along(2, 1, 2, 3, 4, 9), along(1, 1, 5, 6, 7, 8, 4), along(1, 2, 10, 11, 12, 13, 9), along(1, 3, 14, 15, 16, 9)), 1, 9,
			[]waying{over(2, 1, 2, 3, 4, 9), over(1, 1, 5, 6, 7, 8, 4, 3, 14, 15, 16, 9)}},
		{slices.Concat(along(2, 1, 2, 3, 4, 9), along(2, 1, 5, 6, 7, 8, 4), along(1, 2, 10, 11, 12, 13, 9), along(1, 3, 14, 15, 16, 9)), 1, 9,
			[]waying{over(2, 1, 2, 3, 4, 9), over(1, 1, 5, 6, 7, 8, 4, 3, 14, 15, 16, 9), over(1, 1, 5, 6, 7, 8, 4, 3, 2, 10, 11, 12, 13, 9)}},
		// Ways that lead back, round or on are in nobody's way.
		{slices.Concat(along(5, 1, 2, 1), along(4, 2, 3, 2), along(9, 3, 1)), 1, 3, []waying{over(4, 1, 2, 3)}},
		{along(4, 4, 2, 8, 16), 4, 8, []waying{over(4, 4, 2, 8)}},
		// No way: no edge at all, or of 0; one the wrong way; one that ends ahead, or begins behind.
		{nil, 1, 2, nil},
		{along(0, 1, 2), 1, 2, nil},
		{along(5, 1, 2), 2, 1, nil},
		{along(5, 1, 2, 3), 3, 1, nil},
		{slices.Concat(along(5, 1, 2, 3), along(5, 5, 4)), 1, 5, nil},
		{slices.Concat(along(5, 1, 2), along(0, 2, 3), along(5, 3, 4)), 1, 4, nil},
		{along(5, 2, 3), 1, 3, nil},
		// Both the same: nothing, though ways lead round.
		{slices.Concat(along(5, 1, 2, 1), along(5, 2, 3, 1)), 1, 1, nil},
		{slices.Concat(along(5, 1, 2, 1), along(5, 2, 3, 1)), 3, 3, nil},
		{along(5, 1, 16, 1), 16, 16, nil},
		// A way of all parties.
		{along(3, all()...), 1, 16, []waying{over(3, all()...)}},
		{along(3, turned(all())...), 16, 1, []waying{over(3, turned(all())...)}},
		{slices.Concat(along(7, all()...), along(2, 1, 3, 16), along(1, 1, 16)), 1, 16, []waying{over(1, 1, 16), over(2, 1, 3, 16), over(7, all()...)}},
	} {
		g := made(t, c.edges...)
		_, top := cut(c.ways, most)
		for want := int64(-2); want <= top+3; want++ {
			pushes, got := cut(c.ways, want)
			route(t, fmt.Sprint(i), g, c.from, c.to, want, got, pushes...)
		}
		pushes, _ := cut(c.ways, most)
		for _, want := range []int64{twice, 1 << 62, most - 1, most} {
			route(t, fmt.Sprint(i), g, c.from, c.to, want, top, pushes...)
		}
		for _, want := range []int64{-twice, least, least + 1} {
			route(t, fmt.Sprint(i), g, c.from, c.to, want, 0)
		}
		goes(t, fmt.Sprint(i), g, c.from, c.to, top)
	}
}

// P7.1: along a way of all parties, the least of its edges tells, each in its turn.
func TestRouteOfLongWay(t *testing.T) {
	for narrow := range 15 {
		edges := along(twice, all()...)
		edges[narrow].N = 5
		g := made(t, edges...)
		for want := int64(1); want < 8; want++ {
			route(t, fmt.Sprint(narrow), g, 1, 16, want, min(want, 5), along(min(want, 5), all()...)...)
		}
		goes(t, fmt.Sprint(narrow), g, 1, 16, 5)
	}
}

// P7.1, P7.2: the greatest capacities: all that may stand in a graph, and what is more than one of them behind pushes.
func TestRouteOfMuch(t *testing.T) {
	g := made(t, full(twice)...)
	ways := []waying{over(twice, 1, 16)}
	for _, p := range all()[1:15] {
		ways = append(ways, over(twice, 1, p, 16))
	}
	top := int64(15 * twice)
	for _, want := range []int64{1, twice - 1, twice, twice + 1, 7*twice + 5, top - 1, top, top + 1, most - 1, most} {
		pushes, got := cut(ways, want)
		route(t, "full", g, 1, 16, want, got, pushes...)
	}
	goes(t, "full", g, 1, 16, top)
	goes(t, "full", g, 16, 1, top)
	for _, p := range all()[1:] {
		if e := g.Push(p, 1, twice); e != api.OK {
			t.Fatal(e)
		}
	}
	// To each other party goes twice as much now, of which half goes on; from 1 to 16 all of it.
	goes(t, "pushed", g, 1, 16, 2*twice+14*twice)
	goes(t, "pushed", g, 16, 1, 0)
	pushes, got := cut(append([]waying{over(2*twice, 1, 16)}, ways[1:]...), most)
	route(t, "pushed", g, 1, 16, most, got, pushes...)
}

// P7.1, P7.2: each number that a party could have: what is no party has nothing, and gets nothing.
func TestRouteOfEachParty(t *testing.T) {
	g := made(t, full(3)...)
	for a := range 256 {
		for b := range 256 {
			from, to := api.Party(a), api.Party(b)
			if a >= 1 && a <= 16 && b >= 1 && b <= 16 && a != b {
				route(t, "full", g, from, to, 2, 2, along(2, from, to)...)
				goes(t, "full", g, from, to, 45)
				continue
			}
			route(t, "full", g, from, to, 2, 0)
			goes(t, "full", g, from, to, 0)
		}
	}
}

// R1, R3: without a graph, or with one that no call made or that has nothing, nothing goes.
func TestRouteOfNothing(t *testing.T) {
	for i, g := range []*graphs.Graph{nil, {}, new(graphs.Graph), made(t), made(t, along(0, 1, 2, 16)...), graphs.Of(nil, 1)} {
		for _, a := range []api.Party{0, 1, 2, 16, 17, 255} {
			for _, b := range []api.Party{0, 1, 2, 16, 17, 255} {
				for _, want := range []int64{least, -1, 0, 1, 2, twice, most} {
					route(t, fmt.Sprint(i), g, a, b, want, 0)
				}
				goes(t, fmt.Sprint(i), g, a, b, 0)
			}
		}
	}
}

// P7.1, R5: a graph that goes on behind a route answers of what it has by then; the answer stays.
func TestRouteBehindPushes(t *testing.T) {
	g := made(t, slices.Concat(along(3, 1, 2, 4), along(2, 1, 3, 4))...)
	pushes, got := flows.Route(g, 1, 4, 4)
	for _, x := range pushes {
		if e := g.Push(x.From, x.To, x.N); e != api.OK {
			t.Fatalf("Push(%v): %v", x, e)
		}
	}
	if want := slices.Concat(along(3, 1, 2, 4), along(1, 1, 3, 4)); got != 4 || !slices.Equal(pushes, want) {
		t.Errorf("%v, %d; not %v, 4", pushes, got, want)
	}
	route(t, "behind", g, 1, 4, 9, 1, along(1, 1, 3, 4)...)
	route(t, "back", g, 4, 1, 9, 4, slices.Concat(along(3, 4, 2, 1), along(1, 4, 3, 1))...)
	goes(t, "back", g, 4, 1, 4)
}

// P7.1, P7.3: in a ledger's graph; the ledger stays, and its pushes may be done there.
func TestRouteOfLedger(t *testing.T) {
	l := ledgers.New()
	for _, p := range []api.Party{1, 2, 3, 16} {
		l.Open(p)
	}
	for _, x := range []struct {
		creditor, debtor api.Party
		limit            int64
	}{{2, 1, 5}, {3, 1, 4}, {16, 2, 3}, {16, 3, api.MaxAmount}, {1, 16, 2}} {
		if e := l.Trust(x.creditor, x.debtor, 1, x.limit); e != api.OK {
			t.Fatal(e)
		}
	}
	l.Push(16, 1, 1, 2)
	lines := l.Lines()
	g := graphs.Of(l, 1)
	route(t, "ledger", g, 1, 16, 8, 8, slices.Concat(along(2, 1, 16), along(3, 1, 2, 16), along(3, 1, 3, 16))...)
	goes(t, "ledger", g, 1, 16, 9)
	goes(t, "ledger", g, 16, 1, 0)
	goes(t, "another currency", graphs.Of(l, 2), 1, 16, 0)
	if !slices.Equal(l.Lines(), lines) {
		t.Errorf("the ledger has %v, not %v", l.Lines(), lines)
	}
	pushes, _ := flows.Route(g, 1, 16, 8)
	for _, x := range pushes {
		if e := l.Push(x.From, x.To, 1, x.N); e != api.OK {
			t.Errorf("Push(%v): %v", x, e)
		}
	}
	for p, want := range map[api.Party]int64{1: 2 - 8, 2: 0, 3: 0, 16: 8 - 2} {
		if got := l.Position(p, 1); got != want {
			t.Errorf("the position of %d: %d, not %d", p, got, want)
		}
	}
	goes(t, "pushed", graphs.Of(l, 1), 1, 16, 1)
	goes(t, "pushed", graphs.Of(l, 1), 16, 1, 8)
}
