package graphs_test

import (
	"fmt"
	"math"
	"slices"
	"testing"

	"countinghouse/api"
	"countinghouse/graphs"
	"countinghouse/ledgers"
)

const (
	amount = api.MaxAmount
	twice  = 2 * api.MaxAmount
	most   = math.MaxInt64
	least  = math.MinInt64
)

// to is an edge, or a push, as the document's examples have it: from one to the other one, so much.
func to(a, b api.Party, n int64) api.Flow { return api.Flow{From: a, To: b, N: n} }

func made(t *testing.T, edges ...api.Flow) *graphs.Graph {
	t.Helper()
	g, e := graphs.New(edges)
	if e != api.OK || g == nil {
		t.Fatalf("New(%v): %v", edges, e)
	}
	return g
}

// holds asks whether a graph has just these edges, by whatever tells of them.
func holds(t *testing.T, what string, g *graphs.Graph, edges ...api.Flow) {
	t.Helper()
	if got := g.Edges(); !slices.Equal(got, edges) {
		t.Fatalf("%s: edges %v, not %v", what, got, edges)
	}
	caps := map[[2]api.Party]int64{}
	for _, x := range edges {
		caps[[2]api.Party{x.From, x.To}] = x.N
	}
	for a := range api.Party(18) {
		for b := range api.Party(18) {
			if got := g.Cap(a, b); got != caps[[2]api.Party{a, b}] {
				t.Fatalf("%s: Cap(%d, %d): %d, not %d", what, a, b, got, caps[[2]api.Party{a, b}])
			}
		}
	}
}

// push pushes, and holds the error, and the graph, against what the document asks for: behind an error nothing is another one.
func push(t *testing.T, g *graphs.Graph, x api.Flow, want api.Errno, edges ...api.Flow) {
	t.Helper()
	if want != api.OK {
		edges = g.Edges()
	}
	if got := g.Push(x.From, x.To, x.N); got != want {
		t.Fatalf("Push(%v): %v, not %v", x, got, want)
	}
	holds(t, fmt.Sprint("Push", x), g, edges...)
}

// full has an edge from each party to each other one, in order.
func full() []api.Flow {
	var l []api.Flow
	for a := range api.Party(16) {
		for b := range api.Party(16) {
			if a != b {
				l = append(l, to(a+1, b+1, int64(a)*100+int64(b)+1))
			}
		}
	}
	return l
}

// turned is the list from its end on.
func turned(l []api.Flow) []api.Flow {
	l = slices.Clone(l)
	slices.Reverse(l)
	return l
}

// The document's examples, one behind the other.
func TestExamples(t *testing.T) {
	g := made(t, to(1, 2, 5), to(2, 1, 1))
	push(t, g, to(1, 2, 3), api.OK, to(1, 2, 2), to(2, 1, 4))
	push(t, g, to(1, 2, 3), api.ErrRoute)
	push(t, g, to(2, 1, 4), api.OK, to(1, 2, 6))
}

// P5.1, P5.3: what New takes, Edges tells: by From, of one by To, and nothing of those of 0.
func TestNewTakes(t *testing.T) {
	for i, c := range []struct{ edges, told []api.Flow }{
		{nil, nil},
		{[]api.Flow{}, nil},
		{[]api.Flow{to(1, 2, 1)}, []api.Flow{to(1, 2, 1)}},
		// The least and the greatest party, either way; the least and the greatest N.
		{[]api.Flow{to(1, 16, 0)}, nil},
		{[]api.Flow{to(16, 1, 0)}, nil},
		{[]api.Flow{to(1, 16, 1)}, []api.Flow{to(1, 16, 1)}},
		{[]api.Flow{to(16, 1, twice)}, []api.Flow{to(16, 1, twice)}},
		{[]api.Flow{to(1, 16, twice), to(16, 1, twice)}, []api.Flow{to(1, 16, twice), to(16, 1, twice)}},
		{[]api.Flow{to(2, 3, amount), to(3, 2, amount+1)}, []api.Flow{to(2, 3, amount), to(3, 2, amount+1)}},
		{[]api.Flow{to(15, 16, twice-1)}, []api.Flow{to(15, 16, twice-1)}},
		// The same ends in the other order are those of another one.
		{[]api.Flow{to(2, 1, 3), to(1, 2, 0)}, []api.Flow{to(2, 1, 3)}},
		{[]api.Flow{to(2, 1, 0), to(1, 2, 3)}, []api.Flow{to(1, 2, 3)}},
		{[]api.Flow{to(2, 1, 3), to(1, 2, 3)}, []api.Flow{to(1, 2, 3), to(2, 1, 3)}},
		// From counts first, then To, and N not at all, however they came.
		{[]api.Flow{to(3, 1, 1), to(2, 4, 2), to(2, 1, 9), to(1, 5, 7), to(1, 4, 8)},
			[]api.Flow{to(1, 4, 8), to(1, 5, 7), to(2, 1, 9), to(2, 4, 2), to(3, 1, 1)}},
		{[]api.Flow{to(10, 2, 1), to(9, 11, 1), to(2, 10, 1), to(2, 9, 1)},
			[]api.Flow{to(2, 9, 1), to(2, 10, 1), to(9, 11, 1), to(10, 2, 1)}},
		{full(), full()},
		{turned(full()), full()},
	} {
		holds(t, fmt.Sprint(i), made(t, c.edges...), c.told...)
	}
}

// P5.1: what New refuses, alone, ahead of others and behind them; with an error there is no graph.
func TestNewRefuses(t *testing.T) {
	for _, x := range []api.Flow{
		{},
		to(0, 0, 3), to(0, 1, 3), to(1, 0, 3), to(0, 16, 0), to(16, 0, 0),
		to(17, 1, 3), to(1, 17, 3), to(17, 18, 3), to(16, 17, 0), to(17, 16, 0), to(255, 1, 3), to(1, 255, 3), to(255, 255, 3),
		to(1, 1, 3), to(16, 16, 3), to(7, 7, 0), to(17, 17, 3),
		to(1, 2, -1), to(2, 1, least), to(16, 1, -twice),
		to(1, 2, twice+1), to(16, 1, twice+1), to(2, 1, most),
	} {
		for i, edges := range [][]api.Flow{
			{x},
			{x, to(3, 4, 5)},
			{to(3, 4, 5), x},
			{to(3, 4, 5), x, to(4, 3, 5)},
		} {
			if g, e := graphs.New(edges); g != nil || e != api.ErrArg {
				t.Errorf("%d: New(%v): %v, %v", i, edges, g, e)
			}
		}
	}
}

// P5.1: two of the same ends, in the same order, whatever they have, and whatever stands between.
func TestNewRefusesTwo(t *testing.T) {
	for _, n := range []int64{0, 1, 5, twice} {
		for _, m := range []int64{0, 1, 5, twice} {
			for _, ends := range [][2]api.Party{{1, 2}, {2, 1}, {1, 16}, {16, 15}} {
				one, two := to(ends[0], ends[1], n), to(ends[0], ends[1], m)
				back := to(ends[1], ends[0], n)
				for _, edges := range [][]api.Flow{{one, two}, {one, back, two}, {back, one, to(7, 8, 1), two}, {one, two, two}} {
					if g, e := graphs.New(edges); g != nil || e != api.ErrArg {
						t.Errorf("New(%v): %v, %v", edges, g, e)
					}
				}
			}
		}
	}
	all := full()
	for i, x := range all {
		if g, e := graphs.New(append(slices.Clone(all), x)); g != nil || e != api.ErrArg {
			t.Errorf("%d comes twice: %v, %v", i, g, e)
		}
	}
	if g, e := graphs.New(make([]api.Flow, 100000)); g != nil || e != api.ErrArg {
		t.Errorf("many: %v, %v", g, e)
	}
}

// ledger has the parties 1, 2, 3 and 16, lines one way and both ways, and debts.
func ledger(t *testing.T) *ledgers.Ledger {
	t.Helper()
	line := func(a, b api.Party, c api.Currency, limit, debt int64) api.Line {
		return api.Line{Creditor: a, Debtor: b, Currency: c, Limit: limit, Debt: debt}
	}
	l, e := ledgers.Of([]api.Party{1, 2, 3, 16}, []api.Line{
		line(1, 2, 1, 10, 3), line(2, 1, 1, 6, 0), line(2, 3, 1, 7, 0), line(3, 1, 1, 8, 8), line(16, 1, 1, 9, 4),
		line(1, 16, 8, amount, amount), line(2, 3, 8, 5, 2), line(3, 2, 8, 6, 4), line(16, 1, 8, amount, 0),
	})
	if e != api.OK {
		t.Fatal(e)
	}
	return l
}

// P5.1: a ledger's graph has its rooms: what is owed back, and what may be owed still, up to twice MaxAmount.
func TestOf(t *testing.T) {
	l := ledger(t)
	for c, want := range map[api.Currency][]api.Flow{
		1: {to(1, 2, 9), to(1, 16, 5), to(2, 1, 7), to(3, 1, 8), to(3, 2, 7), to(16, 1, 4)},
		8: {to(1, 16, twice), to(2, 3, 2+2), to(3, 2, 3+4)},
		0: nil, 2: nil, 7: nil, 9: nil, 255: nil,
	} {
		g := graphs.Of(l, c)
		holds(t, fmt.Sprint("Of ", c), g, want...)
		if !g.Same(made(t, want...)) {
			t.Errorf("Of %d: not the same as New's of %v", c, want)
		}
	}
}

// P5.1: without a ledger, or with one that has nothing, there is a graph all the same; it has none.
func TestOfNothing(t *testing.T) {
	alone := ledgers.New()
	alone.Open(1)
	alone.Open(2)
	for i, l := range []*ledgers.Ledger{nil, {}, ledgers.New(), alone} {
		for _, c := range []api.Currency{0, 1, 8, 9, 255} {
			g := graphs.Of(l, c)
			holds(t, fmt.Sprint(i), g)
			push(t, g, to(1, 2, 1), api.ErrRoute)
			push(t, g, to(1, 2, 0), api.ErrArg)
			if g.Copy() == nil {
				t.Errorf("%d: there is no graph", i)
			}
		}
	}
}

// R1, R5: a ledger's graph goes its own way, and so does the ledger.
func TestOfLeavesTheLedger(t *testing.T) {
	l := ledger(t)
	lines, parties := l.Lines(), l.Parties()
	g, other := graphs.Of(l, 1), graphs.Of(l, 1)
	was := g.Edges()
	push(t, g, to(1, 2, 9), api.OK, to(1, 16, 5), to(2, 1, 16), to(3, 1, 8), to(3, 2, 7), to(16, 1, 4))
	if !slices.Equal(l.Lines(), lines) || !slices.Equal(l.Parties(), parties) {
		t.Errorf("the ledger: %v, %v", l.Parties(), l.Lines())
	}
	holds(t, "another one of the same ledger", other, was...)
	now := g.Edges()
	l.Push(2, 1, 1, 7)
	l.Trust(3, 1, 1, 50)
	holds(t, "the ledger moved", other, was...)
	holds(t, "the ledger moved", g, now...)
}

// P5.2: each number that a party could have; 0 of what is no party, and of one to itself.
func TestCap(t *testing.T) {
	g := made(t, full()...)
	for a := range 256 {
		for b := range 256 {
			want := int64(0)
			if a >= 1 && a <= 16 && b >= 1 && b <= 16 && a != b {
				want = int64(a-1)*100 + int64(b-1) + 1
			}
			if got := g.Cap(api.Party(a), api.Party(b)); got != want {
				t.Fatalf("Cap(%d, %d): %d, not %d", a, b, got, want)
			}
		}
	}
}

// P5.2: a push of 1, of the whole capacity, of one more, of 0 and below; where no capacity is; ErrArg is named ahead of ErrRoute.
func TestPush(t *testing.T) {
	g := made(t, to(1, 2, 5), to(2, 3, 7), to(16, 1, twice), to(1, 16, twice))
	rest := []api.Flow{to(1, 16, twice), to(2, 3, 7), to(16, 1, twice)}
	for _, n := range []int64{least, -twice, -5, -1, 0} {
		for _, ends := range [][2]api.Party{{1, 2}, {2, 1}, {1, 3}, {1, 1}, {0, 1}, {1, 17}, {255, 255}} {
			push(t, g, to(ends[0], ends[1], n), api.ErrArg)
		}
	}
	for _, x := range []api.Flow{
		to(1, 2, 6), to(1, 2, most), to(2, 1, 1), to(3, 2, 1), to(1, 3, 1), to(16, 1, twice+1),
		to(1, 1, 1), to(16, 16, 1), to(0, 0, 1), to(0, 1, 1), to(1, 0, 1), to(17, 1, 1), to(1, 17, 1), to(0, 200, 1), to(255, 255, most),
	} {
		push(t, g, x, api.ErrRoute)
	}
	push(t, g, to(1, 2, 1), api.OK, to(1, 2, 4), rest[0], to(2, 1, 1), rest[1], rest[2])
	push(t, g, to(1, 2, 5), api.ErrRoute)
	push(t, g, to(1, 2, 4), api.OK, rest[0], to(2, 1, 5), rest[1], rest[2])
	push(t, g, to(1, 2, 1), api.ErrRoute)
	push(t, g, to(2, 1, 6), api.ErrRoute)
	push(t, g, to(2, 1, 2), api.OK, to(1, 2, 2), rest[0], to(2, 1, 3), rest[1], rest[2])
	push(t, g, to(2, 1, 3), api.OK, to(1, 2, 5), rest[0], rest[1], rest[2])
}

// P5.2: where both ways have the most, one of them may come to twice as much.
func TestPushOfTheMost(t *testing.T) {
	g := made(t, to(1, 16, twice), to(16, 1, twice))
	push(t, g, to(16, 1, twice+1), api.ErrRoute)
	push(t, g, to(16, 1, twice), api.OK, to(1, 16, 2*twice))
	push(t, g, to(1, 16, 2*twice+1), api.ErrRoute)
	push(t, g, to(1, 16, 2*twice), api.OK, to(16, 1, 2*twice))
}

// same holds what Same tells, either way.
func same(t *testing.T, what string, a, b *graphs.Graph, want bool) {
	t.Helper()
	if a.Same(b) != want || b.Same(a) != want {
		t.Errorf("%s: %v and %v, not %v", what, a.Same(b), b.Same(a), want)
	}
}

// P5.3: the same are those of the same capacities, whichever call made them; one more, one less, or one elsewhere is another.
func TestSame(t *testing.T) {
	edges := full()
	g := made(t, edges...)
	same(t, "to itself", g, g, true)
	same(t, "in another order", g, made(t, turned(edges)...), true)
	for i := range edges {
		for _, n := range []int64{0, edges[i].N - 1, edges[i].N + 1, twice} {
			others := slices.Clone(edges)
			others[i].N = n
			same(t, fmt.Sprint(edges[i], n), g, made(t, others...), edges[i].N == n)
		}
		same(t, fmt.Sprint(edges[i], " let go"), g, made(t, slices.Delete(slices.Clone(edges), i, i+1)...), false)
	}
	same(t, "turned about", made(t, to(1, 2, 5)), made(t, to(2, 1, 5)), false)
	same(t, "elsewhere", made(t, to(1, 2, 5)), made(t, to(1, 3, 5)), false)
	same(t, "an edge of 0", made(t, to(1, 2, 5), to(2, 1, 0)), made(t, to(1, 2, 5)), true)
	pushed := made(t, to(1, 2, 5))
	push(t, pushed, to(1, 2, 5), api.OK, to(2, 1, 5))
	same(t, "pushed", pushed, made(t, to(2, 1, 5)), true)
	same(t, "pushed", pushed, made(t, to(1, 2, 5)), false)
}

// P5.3: a copy has the same, and goes its own way; so does what it was made of. (R5)
func TestCopy(t *testing.T) {
	edges := []api.Flow{to(1, 2, 5), to(2, 1, 1), to(3, 16, 4)}
	a := made(t, edges...)
	b, c := a.Copy(), a.Copy()
	if b == nil || b == a || b == c {
		t.Fatal("no other one")
	}
	same(t, "copy", a, b, true)
	for _, g := range []*graphs.Graph{b, a} {
		holds(t, "one that is not pushed in yet", g, edges...)
		push(t, g, to(1, 2, 5), api.OK, to(2, 1, 6), to(3, 16, 4))
		push(t, g, to(3, 16, 1), api.OK, to(2, 1, 6), to(3, 16, 3), to(16, 3, 1))
		holds(t, "one that stays", c, edges...)
	}
	same(t, "both are pushed in", a, b, true)
	same(t, "one is pushed in", a, c, false)
	d := made(t).Copy()
	holds(t, "of one that has nothing", d)
	push(t, d, to(1, 2, 1), api.ErrRoute)
}

// R1: what is handed in stays as it is, and is not kept.
func TestNewLeavesWhatItIsGiven(t *testing.T) {
	edges := []api.Flow{to(3, 16, 4), to(2, 1, 1), to(1, 2, 5), to(9, 9, 9)}
	was := slices.Clone(edges)
	g := made(t, edges[:3]...)
	push(t, g, to(1, 2, 2), api.OK, to(1, 2, 3), to(2, 1, 3), to(3, 16, 4))
	if !slices.Equal(edges, was) {
		t.Fatalf("%v", edges)
	}
	g = made(t, edges[:3]...)
	clear(edges)
	holds(t, "what is written over", g, to(1, 2, 5), to(2, 1, 1), to(3, 16, 4))
}

// R4: what is told is memory of its own, with nothing in its room behind.
func TestToldIsItsOwn(t *testing.T) {
	edges := full()
	for many := range len(edges) + 1 {
		g := made(t, edges[:many]...)
		got, again := g.Edges(), g.Edges()
		if len(got) != many || cap(got) != many {
			t.Fatalf("%d edges in %d", len(got), cap(got))
		}
		clear(got)
		if !slices.Equal(again, edges[:many]) || !slices.Equal(g.Edges(), edges[:many]) {
			t.Fatalf("%d edges: what is written over", many)
		}
	}
}

// R3: of no graph, and of one that no call made, there is nothing, and it takes nothing: ErrNil is named ahead of all other errors.
func TestNothing(t *testing.T) {
	for i, g := range []*graphs.Graph{nil, {}, new(graphs.Graph)} {
		for _, a := range []api.Party{0, 1, 2, 16, 17, 255} {
			for _, b := range []api.Party{0, 1, 2, 16, 17, 255} {
				for _, n := range []int64{least, -1, 0, 1, amount, most} {
					push(t, g, to(a, b, n), api.ErrNil)
				}
				if g.Cap(a, b) != 0 {
					t.Fatalf("%d: Cap(%d, %d): %d", i, a, b, g.Cap(a, b))
				}
			}
		}
		if got := g.Edges(); len(got) != 0 || cap(got) != 0 {
			t.Errorf("%d: edges %v", i, got)
		}
		if g.Copy() != nil {
			t.Errorf("%d: a copy of nothing", i)
		}
		for _, none := range []*graphs.Graph{nil, {}, made(t), made(t, to(1, 2, 0)), graphs.Of(nil, 1), graphs.Of(ledgers.New(), 1)} {
			same(t, fmt.Sprint(i), g, none, true)
		}
		same(t, fmt.Sprint(i), g, made(t, to(1, 2, 1)), false)
		same(t, fmt.Sprint(i), g, graphs.Of(ledger(t), 8), false)
	}
}
