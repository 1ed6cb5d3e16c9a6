package machines_test

import (
	"fmt"
	"math"
	"slices"
	"testing"

	"countinghouse/api"
	"countinghouse/machines"
)

const (
	amount = int64(api.MaxAmount)
	term   = int64(api.MaxTerm)
	most   = int64(math.MaxInt64)
	least  = int64(math.MinInt64)
	last   = uint64(math.MaxUint64)
)

type (
	step  = api.Step
	got   = api.Got
	state = machines.State
)

func open(a api.Party) step { return step{Kind: api.KdOpen, A: a} }

func trust(a, b api.Party, c api.Currency, n int64) step {
	return step{Kind: api.KdTrust, A: a, B: b, C: c, N: n}
}

func pay(a, b api.Party, c api.Currency, n int64) step {
	return step{Kind: api.KdPay, A: a, B: b, C: c, N: n}
}

func swap(a, b api.Party, get, give api.Currency, n, most int64) step {
	return step{Kind: api.KdSwap, A: a, B: b, C: get, D: give, N: n, Max: most}
}

func place(a api.Party, sell, buy api.Currency, n, num, den int64) step {
	return step{Kind: api.KdPlace, A: a, C: sell, D: buy, N: n, Rate: api.Rat{Num: num, Den: den}}
}

func cancel(a api.Party, seq uint64) step { return step{Kind: api.KdCancel, A: a, Seq: seq} }

func net(c api.Currency, quota int64) step { return step{Kind: api.KdNet, C: c, Max: quota} }

func debt(a, b api.Party, c api.Currency) step { return step{Kind: api.KdDebt, A: a, B: b, C: c} }

func position(a api.Party, c api.Currency) step { return step{Kind: api.KdPosition, A: a, C: c} }

func total(c api.Currency) step { return step{Kind: api.KdTotal, C: c} }

func left(seq uint64) step { return step{Kind: api.KdLeft, Seq: seq} }

// line as the document's lists have it: of a currency, creditor, debtor, limit, debt.
func line(c api.Currency, creditor, debtor api.Party, limit, debt int64) api.Line {
	return api.Line{Creditor: creditor, Debtor: debtor, Currency: c, Limit: limit, Debt: debt}
}

// offer of a number: its owner sells so much of one currency for another one, at a rate.
func offer(seq uint64, owner api.Party, sell, buy api.Currency, left, num, den int64) api.Offer {
	return api.Offer{Seq: seq, Owner: owner, Sell: sell, Buy: buy, Left: left, Rate: api.Rat{Num: num, Den: den}}
}

// upTo are the parties from 1 to that one.
func upTo(p api.Party) (l []api.Party) {
	for q := range p {
		l = append(l, q+1)
	}
	return l
}

// same asks whether two states are; of a list that has nothing it does not matter whether it is one.
func same(a, b state) bool {
	return slices.Equal(a.Parties, b.Parties) && slices.Equal(a.Lines, b.Lines) && slices.Equal(a.Offers, b.Offers) && a.Next == b.Next
}

// copied is a state in memory of its own.
func copied(s state) state {
	return state{Parties: slices.Clone(s.Parties), Lines: slices.Clone(s.Lines), Offers: slices.Clone(s.Offers), Next: s.Next}
}

// spoil what was handed in, or answered.
func spoil(s state) {
	for i := range s.Parties {
		s.Parties[i] = 99
	}
	clear(s.Lines)
	clear(s.Offers)
}

// of is a machine of a state, which is spoilt behind that.
func of(t *testing.T, s state) *machines.Machine {
	t.Helper()
	handed := copied(s)
	m, e := machines.Of(handed)
	if m == nil || e != api.OK {
		t.Fatalf("Of(%v): %v", s, e)
	}
	if !same(handed, s) {
		t.Fatalf("Of(%v) made %v of it", s, handed)
	}
	spoil(handed)
	return m
}

// holds asks twice whether a machine has just that: what it tells is memory of its own, with nothing in its room behind.
func holds(t *testing.T, what string, m *machines.Machine, want state) {
	t.Helper()
	for range 2 {
		s := m.State()
		if !same(s, want) {
			t.Fatalf("%s: the state is %v, not %v", what, s, want)
		}
		if cap(s.Parties) != len(s.Parties) || cap(s.Lines) != len(s.Lines) || cap(s.Offers) != len(s.Offers) {
			t.Fatalf("%s: the state %v has room behind", what, s)
		}
		spoil(s)
	}
}

// replies asks whether a machine answers just that; what is handed in stays, and both it and the answer are nobody else's.
func replies(t *testing.T, what string, m *machines.Machine, want api.Reply, steps []step) {
	t.Helper()
	handed := append(make([]step, 0, len(steps)+3), steps...)
	r := m.Apply(api.Command{Steps: handed})
	if r.E != want.E || r.At != want.At || !slices.Equal(r.Got, want.Got) || cap(r.Got) != len(r.Got) {
		t.Fatalf("%s: %v at %d, %v in %d; not %v at %d, %v", what, r.E, r.At, r.Got, cap(r.Got), want.E, want.At, want.Got)
	}
	if !slices.Equal(handed, steps) {
		t.Fatalf("%s made %v of it", what, handed)
	}
	is := m.State()
	clear(handed[:cap(handed)])
	clear(r.Got)
	holds(t, what+", spoilt", m, is)
}

// asked for a command, a machine answers just that, and all holds that follows: with an error nothing changes, and without one the steps do one by one what they do together; a machine of its state answers and becomes the same.
func asked(t *testing.T, what string, m *machines.Machine, want api.Reply, steps []step) {
	t.Helper()
	what = fmt.Sprintf("%s: Apply(%v)", what, steps)
	was, other := m.State(), m.Copy()
	twin := of(t, was)
	replies(t, what, m, want, steps)
	is := m.State()
	replies(t, what+", of its state", twin, want, steps)
	holds(t, what+", of its state", twin, is)
	holds(t, what+", of its copy", other, was)
	if want.E != api.OK && !same(is, was) {
		t.Fatalf("%s: %v became %v", what, was, is)
	}
	oneByOne(t, what, other, want, steps)
	if want.E == api.OK {
		holds(t, what+", one by one", other, is)
	}
}

// oneByOne asks for the steps in commands of their own, as far as they go, and for the one that has an error behind them.
func oneByOne(t *testing.T, what string, m *machines.Machine, want api.Reply, steps []step) {
	t.Helper()
	for i, s := range steps {
		alone := fmt.Sprintf("%s, step %d alone", what, i)
		before := m.State()
		switch {
		case want.E == api.OK:
			replies(t, alone, m, api.Reply{Got: want.Got[i : i+1]}, []step{s})
			follows(t, alone, s, want.Got[i], before, m.State())
		case want.E == api.ErrLimit:
			return
		case i < want.At:
			r := m.Apply(api.Command{Steps: []step{s}})
			if r.E != api.OK || len(r.Got) != 1 {
				t.Fatalf("%s: %v", alone, r)
			}
			follows(t, alone, s, r.Got[0], before, m.State())
		default:
			replies(t, alone, m, api.Reply{E: want.E}, []step{s})
			holds(t, alone, m, before)
			return
		}
	}
}

// done asks for a command that goes.
func done(t *testing.T, what string, m *machines.Machine, steps []step, want ...got) {
	t.Helper()
	asked(t, what, m, api.Reply{Got: want}, steps)
}

// refused asks for a command of which one step has an error.
func refused(t *testing.T, what string, m *machines.Machine, e api.Errno, at int, steps ...step) {
	t.Helper()
	asked(t, what, m, api.Reply{E: e, At: at}, steps)
}

// The document's examples, one behind the other.
func TestExamples(t *testing.T) {
	m := machines.New()
	done(t, "example", m, []step{open(1), open(2), trust(1, 2, 3, 50)}, got{}, got{}, got{})
	done(t, "example", m, []step{pay(2, 1, 3, 20), position(1, 3)}, got{X: 1}, got{X: 20})
	refused(t, "example", m, api.ErrRoute, 1, pay(2, 1, 3, 5), pay(2, 1, 3, 26))
	done(t, "example", m, []step{debt(1, 2, 3)}, got{X: 20, Y: 50})
	refused(t, "example", m, api.ErrLimit, 0)
	holds(t, "example", m, state{Parties: upTo(2), Lines: []api.Line{line(3, 1, 2, 50, 20)}, Next: 1})
}

// P14.1: a machine with nothing, and another one each time.
func TestNew(t *testing.T) {
	m, other := machines.New(), machines.New()
	holds(t, "New", m, state{Next: 1})
	done(t, "New", m, []step{position(1, 1), total(1), debt(1, 2, 1), net(1, 0)}, got{}, got{}, got{}, got{})
	refused(t, "New", m, api.ErrNone, 0, left(1))
	done(t, "New", m, []step{open(3), place(3, 1, 2, 5, 1, 1)}, got{}, got{Y: 1})
	holds(t, "New", other, state{Next: 1})
	holds(t, "New", machines.New(), state{Next: 1})
}

// full is a state of all parties, with as many lines and offers as may be.
func full() state {
	s := state{Parties: upTo(16), Next: 77}
	for a := range api.Party(5) {
		for b := range api.Party(16) {
			if a != b && len(s.Lines) < api.MaxLines {
				s.Lines = append(s.Lines, line(8, a+1, b+1, amount-int64(b), int64(a)*int64(b)))
			}
		}
	}
	for i := range uint64(api.MaxOffers) {
		s.Offers = append(s.Offers, offer(2*i+1, api.Party(i%16)+1, 1, 2, int64(i)+1, 1, int64(i)+1))
	}
	return s
}

// P14.1, P14.3: machines of states that may be tell these again.
func TestOf(t *testing.T) {
	for i, s := range []state{
		{Next: 1}, {Next: last}, {Parties: []api.Party{16}, Next: 5}, full(),
		{Parties: []api.Party{2, 5, 16}, Lines: []api.Line{line(1, 2, 5, amount, amount), line(1, 5, 2, 1, 0), line(8, 16, 2, 9, 4)}, Next: 3},
		{Parties: []api.Party{1, 9}, Offers: []api.Offer{offer(1, 9, 8, 1, amount, term, term-1), offer(4, 1, 1, 8, 1, 1, term), offer(5, 9, 8, 1, 3, 1, 1)}, Next: 6},
		{Parties: []api.Party{7}, Offers: []api.Offer{offer(last-1, 7, 1, 2, 5, 1, 1)}, Next: last},
	} {
		m := of(t, s)
		holds(t, fmt.Sprint(i), m, s)
		holds(t, fmt.Sprint(i, ", copied"), m.Copy(), s)
		holds(t, fmt.Sprint(i, ", of its state"), of(t, m.State()), s)
	}
}

// fine is a state that may be, in which 3 has an offer and no line.
func fine() state {
	return state{Parties: []api.Party{1, 2, 3}, Lines: []api.Line{line(1, 1, 2, 9, 4), line(2, 1, 2, 9, 4)}, Offers: []api.Offer{offer(2, 1, 1, 2, 5, 1, 1), offer(4, 3, 2, 1, 5, 1, 1)}, Next: 5}
}

// moreLines, and moreOffers, are one more than may be.
func moreLines() []api.Line { return append(full().Lines, line(8, 16, 1, 1, 0)) }

func moreOffers() []api.Offer { return append(full().Offers, offer(76, 1, 1, 2, 1, 1, 1)) }

// A fault is what is done to a state that may be, and the error that comes of it.
type fault struct {
	do   func(s *state)
	want api.Errno
}

// found asks for machines of states with a fault: there are none, and what is handed in stays.
func found(t *testing.T, faults ...fault) {
	t.Helper()
	holds(t, "fine", of(t, fine()), fine())
	for i, f := range faults {
		s := fine()
		f.do(&s)
		was := copied(s)
		if m, e := machines.Of(s); m != nil || e != f.want {
			t.Errorf("%d: Of(%v): %v, %v; not %v", i, was, m, e, f.want)
		}
		if !same(s, was) {
			t.Errorf("%d: Of(%v) made %v of it", i, was, s)
		}
	}
}

// P14.1: parties, lines and offers that may not be, as the ledger and the book tell it.
func TestOfWrong(t *testing.T) {
	found(t, []fault{
		// Its parties.
		{func(s *state) { s.Parties = nil }, api.ErrArg},
		{func(s *state) { s.Parties = []api.Party{0, 1, 2, 3} }, api.ErrArg},
		{func(s *state) { s.Parties = []api.Party{1, 2, 3, 17} }, api.ErrArg},
		{func(s *state) { s.Parties = []api.Party{1, 3, 2} }, api.ErrArg},
		{func(s *state) { s.Parties = []api.Party{1, 2, 2, 3} }, api.ErrArg},
		// Its lines.
		{func(s *state) { s.Lines = moreLines(); s.Parties = upTo(16) }, api.ErrFull},
		{func(s *state) { s.Lines[0].Debt = 10 }, api.ErrArg},
		{func(s *state) { s.Lines[0].Debt = -1 }, api.ErrArg},
		{func(s *state) { s.Lines[0].Limit = amount + 1 }, api.ErrArg},
		{func(s *state) { s.Lines[0] = line(1, 1, 2, 0, 0) }, api.ErrArg},
		{func(s *state) { s.Lines[1].Debtor = 4 }, api.ErrArg},
		{func(s *state) { s.Lines[1].Debtor = 1 }, api.ErrArg},
		{func(s *state) { s.Lines[1].Currency = 9 }, api.ErrArg},
		{func(s *state) { s.Lines[1].Currency = 1 }, api.ErrArg},
		{func(s *state) { slices.Reverse(s.Lines) }, api.ErrArg},
		// Its offers, and the next number.
		{func(s *state) { s.Offers, s.Next, s.Parties = moreOffers(), 77, upTo(16) }, api.ErrFull},
		{func(s *state) { s.Offers[0].Seq = 0 }, api.ErrArg},
		{func(s *state) { s.Offers[0].Seq = 4 }, api.ErrArg},
		{func(s *state) { slices.Reverse(s.Offers) }, api.ErrArg},
		{func(s *state) { s.Offers[0].Buy = 1 }, api.ErrArg},
		{func(s *state) { s.Offers[0].Left = 0 }, api.ErrArg},
		{func(s *state) { s.Offers[0].Rate = api.Rat{Num: 2, Den: 2} }, api.ErrArg},
		{func(s *state) { s.Next = 4 }, api.ErrArg},
		{func(s *state) { s.Next = 0 }, api.ErrArg},
		{func(s *state) { s.Offers, s.Next = nil, 0 }, api.ErrArg},
	}...)
}

// P14.1: owners that are none of the parties; and of several errors the ledger's comes ahead of the book's, and that ahead of the owners'.
func TestOfWrongOwners(t *testing.T) {
	found(t, []fault{
		// An owner that is none of the parties: the first, the last one, or all.
		{func(s *state) { s.Offers[0].Owner = 4 }, api.ErrArg},
		{func(s *state) { s.Offers[1].Owner = 16 }, api.ErrArg},
		{func(s *state) { s.Offers[0].Owner = 17 }, api.ErrArg},
		{func(s *state) { s.Offers[0].Owner = 0 }, api.ErrArg},
		{func(s *state) { s.Parties = s.Parties[:2] }, api.ErrArg},
		{func(s *state) { s.Parties, s.Lines = nil, nil }, api.ErrArg},
		// Of several.
		{func(s *state) { s.Parties[0] = 0; s.Lines = moreLines() }, api.ErrArg},
		{func(s *state) { s.Lines = moreLines(); s.Parties = upTo(16); s.Next = 0 }, api.ErrFull},
		{func(s *state) { s.Lines = moreLines(); s.Offers[0].Owner = 4 }, api.ErrFull},
		{func(s *state) { s.Parties[0] = 0; s.Offers = moreOffers() }, api.ErrArg},
		{func(s *state) { s.Lines[0].Debt = 10; s.Offers = moreOffers() }, api.ErrArg},
		{func(s *state) { s.Offers = moreOffers() }, api.ErrFull},
		{func(s *state) { s.Offers, s.Next = moreOffers(), 0 }, api.ErrFull},
	}...)
}

// small is a state of four parties, with lines and offers between them.
func small() state {
	return state{
		Parties: upTo(4),
		Lines:   []api.Line{line(1, 3, 2, 30, 5), line(1, 3, 4, 9, 0), line(2, 2, 1, 40, 10), line(2, 4, 1, 9, 9)},
		Offers:  []api.Offer{offer(1, 2, 1, 2, 8, 3, 2), offer(3, 4, 1, 2, 8, 1, 1), offer(4, 1, 2, 1, 6, 1, 9)},
		Next:    6,
	}
}

// P14.3: what is told stands in order, in whatever order it was made.
func TestOrder(t *testing.T) {
	m := machines.New()
	done(t, "order", m, []step{open(7), open(2), open(16), open(1), trust(7, 1, 8, 5), trust(1, 7, 8, 6), trust(16, 2, 1, 7), trust(1, 2, 8, 8)}, make([]got, 8)...)
	done(t, "order", m, []step{place(7, 1, 2, 5, 2, 1), place(1, 1, 2, 6, 1, 1), place(16, 8, 2, 7, 3, 1), trust(2, 16, 2, 4), open(9), trust(1, 9, 8, 3)}, got{Y: 1}, got{Y: 2}, got{Y: 3}, got{}, got{}, got{})
	holds(t, "order", m, state{
		Parties: []api.Party{1, 2, 7, 9, 16},
		Lines:   []api.Line{line(1, 16, 2, 7, 0), line(2, 2, 16, 4, 0), line(8, 1, 2, 8, 0), line(8, 1, 7, 6, 0), line(8, 1, 9, 3, 0), line(8, 7, 1, 5, 0)},
		Offers:  []api.Offer{offer(1, 7, 1, 2, 5, 2, 1), offer(2, 1, 1, 2, 6, 1, 1), offer(3, 16, 8, 2, 7, 3, 1)},
		Next:    4,
	})
	done(t, "order", m, []step{cancel(1, 2), trust(1, 7, 8, 0), place(2, 3, 4, 1, 1, 1)}, got{X: 6}, got{}, got{Y: 4})
	holds(t, "order", m, state{
		Parties: []api.Party{1, 2, 7, 9, 16},
		Lines:   []api.Line{line(1, 16, 2, 7, 0), line(2, 2, 16, 4, 0), line(8, 1, 2, 8, 0), line(8, 1, 9, 3, 0), line(8, 7, 1, 5, 0)},
		Offers:  []api.Offer{offer(1, 7, 1, 2, 5, 2, 1), offer(3, 16, 8, 2, 7, 3, 1), offer(4, 2, 3, 4, 1, 1, 1)},
		Next:    5,
	})
}

// P14.3: a copy goes its own way, and the one it was made of stays; so the other way about, and of a copy's copy.
func TestCopy(t *testing.T) {
	moves := [][]step{
		{open(9), trust(9, 1, 3, 5)}, {pay(1, 2, 2, 7)}, {swap(1, 3, 1, 2, 2, 9)}, {place(3, 1, 2, 4, 5, 1)}, {cancel(2, 1)}, {trust(3, 4, 1, 0)},
		{trust(4, 1, 2, 20), pay(2, 4, 2, 5), net(2, 9)},
	}
	for i, steps := range moves {
		for j, others := range moves {
			what := fmt.Sprint(i, " and ", j)
			m := of(t, small())
			c := m.Copy()
			if c == m {
				t.Fatalf("%s: it is the copy of itself", what)
			}
			holds(t, what, c, small())
			applied(t, what, c, steps)
			is := c.State()
			holds(t, what+", the first one", m, small())
			third := c.Copy()
			applied(t, what, m, others)
			holds(t, what+", the copy", c, is)
			was := m.State()
			done(t, what, third, []step{open(8)}, got{})
			holds(t, what+", the copy", c, is)
			holds(t, what+", the first one", m, was)
			if i == j && !same(is, was) {
				t.Errorf("%s: %v, and %v", what, is, was)
			}
			if i != j && same(is, was) {
				t.Errorf("%s: both are %v", what, is)
			}
		}
	}
}

// applied does a command that goes.
func applied(t *testing.T, what string, m *machines.Machine, steps []step) {
	t.Helper()
	was := m.State()
	if r := m.Apply(api.Command{Steps: steps}); r.E != api.OK || len(r.Got) != len(steps) {
		t.Fatalf("%s: Apply(%v): %v", what, steps, r)
	}
	if same(m.State(), was) {
		t.Fatalf("%s: Apply(%v) changed nothing", what, steps)
	}
}

// P14.1, R5: two machines of one state, which stay their own, whatever lies behind the lists that were handed in.
func TestOfShared(t *testing.T) {
	s := small()
	room := state{Parties: append(make([]api.Party, 0, 9), s.Parties...), Lines: append(make([]api.Line, 0, 9), s.Lines...), Offers: append(make([]api.Offer, 0, 9), s.Offers...), Next: s.Next}
	m, e := machines.Of(room)
	n, f := machines.Of(room)
	if e != api.OK || f != api.OK {
		t.Fatalf("%v, %v", e, f)
	}
	applied(t, "shared", m, []step{open(9), trust(1, 9, 1, 4), place(9, 1, 2, 4, 9, 1), cancel(2, 1), pay(1, 2, 2, 5)})
	holds(t, "the other one", n, small())
	if !same(room, s) {
		t.Errorf("it became %v", room)
	}
	if behind := (state{Parties: room.Parties[:9][4:], Lines: room.Lines[:9][4:], Offers: room.Offers[:9][3:]}); !same(behind, state{Parties: make([]api.Party, 5), Lines: make([]api.Line, 5), Offers: make([]api.Offer, 6)}) {
		t.Errorf("behind it stands %v", behind)
	}
}

// R2, R3: no machine, and one that no call made: they have nothing, and ErrNil comes ahead of all else.
func TestNothing(t *testing.T) {
	tried := new(machines.Machine)
	tried.Apply(api.Command{Steps: []step{open(1)}})
	none, _ := machines.Of(state{})
	for i, m := range []*machines.Machine{nil, {}, tried, none, tried.Copy()} {
		for _, steps := range [][]step{nil, {}, {open(1)}, {open(99)}, {{}}, {total(1)}, make([]step, 8), make([]step, 9)} {
			r := m.Apply(api.Command{Steps: steps})
			if r.E != api.ErrNil || r.At != 0 || r.Got != nil {
				t.Errorf("%d: Apply(%v): %v", i, steps, r)
			}
		}
		if s := m.State(); s.Parties != nil || s.Lines != nil || s.Offers != nil || s.Next != 0 {
			t.Errorf("%d: the state is %v", i, s)
		}
		if m.Copy() != nil {
			t.Errorf("%d: it has a copy", i)
		}
	}
}
