package swaps_test

import (
	"cmp"
	"fmt"
	"math"
	"slices"
	"testing"

	"countinghouse/api"
	"countinghouse/books"
	"countinghouse/fills"
	"countinghouse/ledgers"
	"countinghouse/swaps"
)

const (
	amount = api.MaxAmount
	term   = api.MaxTerm
	most   = math.MaxInt64
	least  = math.MinInt64
)

// line as the document's lists have it: of a currency, creditor, debtor, limit, debt.
func line(c api.Currency, creditor, debtor api.Party, limit, debt int64) api.Line {
	return api.Line{Creditor: creditor, Debtor: debtor, Currency: c, Limit: limit, Debt: debt}
}

// offer of a number: its owner sells so much of 1 for 2, at a rate.
func offer(seq uint64, owner api.Party, left, num, den int64) api.Offer {
	return api.Offer{Seq: seq, Owner: owner, Sell: 1, Buy: 2, Left: left, Rate: api.Rat{Num: num, Den: den}}
}

// all parties, rising.
func all() (l []api.Party) {
	for p := range api.Party(16) {
		l = append(l, p+1)
	}
	return l
}

// sorted as a ledger tells them: by currency, of one by creditor, of one by debtor.
func sorted(lines []api.Line) []api.Line {
	lines = slices.Clone(lines)
	slices.SortFunc(lines, func(a, b api.Line) int {
		return cmp.Or(cmp.Compare(a.Currency, b.Currency), cmp.Compare(a.Creditor, b.Creditor), cmp.Compare(a.Debtor, b.Debtor))
	})
	return lines
}

// A stock is all that a house has.
type stock struct {
	parties []api.Party
	lines   []api.Line
	offers  []api.Offer
	next    uint64
}

// stocked is a stock that is a house's own: with rising offers, and a next number behind them.
func stocked(parties []api.Party, lines []api.Line, offers ...api.Offer) stock {
	return stock{parties, sorted(lines), offers, 99}
}

// house of a stock.
func (s stock) house(t *testing.T) fills.House {
	t.Helper()
	l, e := ledgers.Of(s.parties, s.lines)
	if e != api.OK || l == nil {
		t.Fatalf("ledgers.Of(%v, %v): %v", s.parties, s.lines, e)
	}
	b, e := books.Of(s.offers, s.next)
	if e != api.OK || b == nil {
		t.Fatalf("books.Of(%v, %d): %v", s.offers, s.next, e)
	}
	return fills.House{L: l, B: b}
}

// stockOf tells a house's, such as has nothing.
func stockOf(h fills.House) stock {
	return stock{h.L.Parties(), h.L.Lines(), h.B.All(), h.B.Next()}
}

// holds asks whether a house has just that.
func (s stock) holds(t *testing.T, what string, h fills.House) {
	t.Helper()
	is := stockOf(h)
	if !slices.Equal(is.parties, s.parties) || is.next != s.next {
		t.Fatalf("%s: parties %v, next number %d; not %v, %d", what, is.parties, is.next, s.parties, s.next)
	}
	if !slices.Equal(is.lines, s.lines) {
		t.Fatalf("%s: lines %v, not %v", what, is.lines, s.lines)
	}
	if !slices.Equal(is.offers, s.offers) {
		t.Fatalf("%s: offers %v, not %v", what, is.offers, s.offers)
	}
}

// An ask is a swap as it is asked for.
type ask struct {
	from, to  api.Party
	get, give api.Currency
	n, most   int64
}

func (a ask) swap(h fills.House) (fills.House, []fills.Fill, api.Errno) {
	return swaps.Swap(h, a.from, a.to, a.get, a.give, a.n, a.most)
}

// refused asks for a swap that may not be, or goes nowhere: nothing is told, and the house stays.
func refused(t *testing.T, what string, h fills.House, a ask, e api.Errno) {
	t.Helper()
	was := stockOf(h)
	what = fmt.Sprintf("%s: Swap(%v)", what, a)
	after, list, got := a.swap(h)
	if after != (fills.House{}) || list != nil || got != e {
		t.Fatalf("%s: %v, %v, %v; not %v", what, after, list, got, e)
	}
	was.holds(t, what, h)
}

// done asks for a swap that goes: its fills, in a house of its own, and the one that is handed in stays.
func done(t *testing.T, what string, h fills.House, a ask, want ...fills.Fill) fills.House {
	t.Helper()
	was := stockOf(h)
	what = fmt.Sprintf("%s: Swap(%v)", what, a)
	after, list, e := a.swap(h)
	if !slices.Equal(list, want) || e != api.OK {
		t.Fatalf("%s: %v, %v; not %v", what, list, e, want)
	}
	if cap(list) != len(list) {
		t.Fatalf("%s: room for %d behind %d fills", what, cap(list)-len(list), len(list))
	}
	if after.L == nil || after.B == nil || after.L == h.L || after.B == h.B {
		t.Fatalf("%s: the house is %v, of %v", what, after, h)
	}
	was.holds(t, what, h)
	return after
}

// fill by 1 toward 3.
func fill(seq uint64, got, given int64) fills.Fill { return toward(3, seq, got, given) }

// toward somebody is a fill by 1.
func toward(to api.Party, seq uint64, got, given int64) fills.Fill {
	return fills.Fill{Seq: seq, Taker: 1, To: to, Got: got, Given: given}
}

// by 1 toward 3, of 1 for 2.
func by(n, most int64) ask { return ask{1, 3, 1, 2, n, most} }

// wide lines: 3 gets as much as may be of 1 from 2, 4 and 5; 1 gives them as much as may be of 2.
func wide() []api.Line {
	return []api.Line{
		line(1, 3, 2, amount, 0), line(1, 3, 4, amount, 0), line(1, 3, 5, amount, 0),
		line(2, 2, 1, amount, 0), line(2, 4, 1, amount, 0), line(2, 5, 1, amount, 0),
	}
}

// The document's examples.
func TestExamples(t *testing.T) {
	h := fills.House{L: ledgers.New(), B: books.New()}
	for _, p := range all()[:3] {
		h.L.Open(p)
	}
	h.L.Trust(3, 2, 1, 9)
	h.L.Trust(2, 1, 2, 7)
	h.B.Place(2, 1, 2, 5, api.Rat{Num: 3, Den: 2})
	h.B.Place(2, 1, 2, 5, api.Rat{Num: 1, Den: 1})
	after := done(t, "example", h, by(6, 7), fill(2, 5, 5), fill(1, 1, 2))
	stock{all()[:3], []api.Line{line(1, 3, 2, 9, 6), line(2, 2, 1, 7, 7)}, []api.Offer{offer(1, 2, 4, 3, 2)}, 3}.holds(t, "example", after)
	refused(t, "example", h, by(6, 6), api.ErrMax)
	refused(t, "example", h, by(7, 99), api.ErrRoute)
	refused(t, "example", h, by(0, 9), api.ErrArg)
}

// P11.1: swaps by hand, each for just as much as is given, and for one less: their fills, and what the house has by then.
func TestSwap(t *testing.T) {
	direct := []api.Line{line(1, 3, 2, 9, 0), line(2, 2, 1, 99, 0)}
	for i, c := range []struct {
		lines      []api.Line
		offers     []api.Offer
		ask        ask
		fills      []fills.Fill
		linesAfter []api.Line
		left       []api.Offer
	}{
		// One offer: some of it, just what is left, and as much as goes.
		{direct, []api.Offer{offer(7, 2, 8, 3, 2)}, by(1, 2), []fills.Fill{fill(7, 1, 2)}, []api.Line{line(1, 3, 2, 9, 1), line(2, 2, 1, 99, 2)}, []api.Offer{offer(7, 2, 7, 3, 2)}},
		{direct, []api.Offer{offer(7, 2, 8, 3, 2)}, by(7, 11), []fills.Fill{fill(7, 7, 11)}, []api.Line{line(1, 3, 2, 9, 7), line(2, 2, 1, 99, 11)}, []api.Offer{offer(7, 2, 1, 3, 2)}},
		{direct, []api.Offer{offer(7, 2, 8, 3, 2)}, by(8, 12), []fills.Fill{fill(7, 8, 12)}, []api.Line{line(1, 3, 2, 9, 8), line(2, 2, 1, 99, 12)}, nil},
		{direct, []api.Offer{offer(7, 2, 99, 1, 1)}, by(9, 9), []fills.Fill{fill(7, 9, 9)}, []api.Line{line(1, 3, 2, 9, 9), line(2, 2, 1, 99, 9)}, []api.Offer{offer(7, 2, 90, 1, 1)}},
		// The best ones ahead, each as far as it goes: by rates, whatever their numbers are.
		{direct, []api.Offer{offer(3, 2, 2, 3, 1), offer(5, 2, 2, 1, 1), offer(7, 2, 2, 2, 1), offer(8, 2, 2, 3, 2)}, by(7, 13),
			[]fills.Fill{fill(5, 2, 2), fill(8, 2, 3), fill(7, 2, 4), fill(3, 1, 3)}, []api.Line{line(1, 3, 2, 9, 7), line(2, 2, 1, 99, 12)}, []api.Offer{offer(3, 2, 1, 3, 1)}},
		// Of one rate by numbers, of whom ever, and how much ever is left.
		{append([]api.Line{line(1, 3, 4, 9, 0), line(2, 4, 1, 99, 0)}, direct...), []api.Offer{offer(3, 4, 1, 2, 3), offer(4, 2, 3, 2, 3), offer(6, 4, 2, 2, 3), offer(9, 2, 9, 2, 3)}, by(7, 6),
			[]fills.Fill{fill(3, 1, 1), fill(4, 3, 2), fill(6, 2, 2), fill(9, 1, 1)},
			[]api.Line{line(1, 3, 2, 9, 4), line(1, 3, 4, 9, 3), line(2, 2, 1, 99, 3), line(2, 4, 1, 99, 3)}, []api.Offer{offer(9, 2, 8, 2, 3)}},
		// What the last one leaves wanted is just what is left of the next one, or one less.
		{direct, []api.Offer{offer(3, 2, 4, 1, 1), offer(4, 2, 3, 2, 1), offer(5, 2, 9, 3, 1)}, by(7, 10), []fills.Fill{fill(3, 4, 4), fill(4, 3, 6)}, []api.Line{line(1, 3, 2, 9, 7), line(2, 2, 1, 99, 10)}, []api.Offer{offer(5, 2, 9, 3, 1)}},
		{direct, []api.Offer{offer(3, 2, 4, 1, 1), offer(4, 2, 3, 2, 1), offer(5, 2, 9, 3, 1)}, by(6, 8), []fills.Fill{fill(3, 4, 4), fill(4, 2, 4)}, []api.Line{line(1, 3, 2, 9, 6), line(2, 2, 1, 99, 8)}, []api.Offer{offer(4, 2, 1, 2, 1), offer(5, 2, 9, 3, 1)}},
		// A better one as far as what it sells goes, or what it buys: then the next one.
		{append([]api.Line{line(1, 3, 4, 2, 0), line(2, 4, 1, 99, 0)}, direct...), []api.Offer{offer(3, 4, 8, 1, 1), offer(4, 2, 8, 2, 1)}, by(5, 8), []fills.Fill{fill(3, 2, 2), fill(4, 3, 6)},
			[]api.Line{line(1, 3, 2, 9, 3), line(1, 3, 4, 2, 2), line(2, 2, 1, 99, 6), line(2, 4, 1, 99, 2)}, []api.Offer{offer(3, 4, 6, 1, 1), offer(4, 2, 5, 2, 1)}},
		{append([]api.Line{line(1, 3, 4, 9, 0), line(2, 4, 1, 4, 0)}, direct...), []api.Offer{offer(3, 4, 8, 3, 2), offer(4, 2, 8, 2, 1)}, by(5, 9), []fills.Fill{fill(3, 2, 3), fill(4, 3, 6)},
			[]api.Line{line(1, 3, 2, 9, 3), line(1, 3, 4, 9, 2), line(2, 2, 1, 99, 6), line(2, 4, 1, 4, 3)}, []api.Offer{offer(3, 4, 6, 3, 2), offer(4, 2, 5, 2, 1)}},
		// What a better one leaves of the way is too little for the next one, and enough for the one behind it.
		{[]api.Line{line(1, 3, 2, 9, 0), line(1, 3, 4, 9, 0), line(2, 2, 1, 5, 0), line(2, 4, 1, 9, 0)}, []api.Offer{offer(3, 2, 2, 2, 1), offer(4, 2, 9, 3, 1), offer(5, 4, 9, 4, 1)}, by(4, 12), []fills.Fill{fill(3, 2, 4), fill(5, 2, 8)},
			[]api.Line{line(1, 3, 2, 9, 2), line(1, 3, 4, 9, 2), line(2, 2, 1, 5, 4), line(2, 4, 1, 9, 8)}, []api.Offer{offer(4, 2, 9, 3, 1), offer(5, 4, 7, 4, 1)}},
		// Offers of other currencies, or the other way about, stand beside it.
		{append([]api.Line{line(3, 3, 2, 9, 0), line(3, 2, 1, 9, 0)}, direct...), []api.Offer{{Seq: 1, Owner: 2, Sell: 2, Buy: 1, Left: 9, Rate: api.Rat{Num: 1, Den: 9}}, {Seq: 2, Owner: 2, Sell: 1, Buy: 3, Left: 9, Rate: api.Rat{Num: 1, Den: 9}},
			{Seq: 3, Owner: 2, Sell: 3, Buy: 2, Left: 9, Rate: api.Rat{Num: 1, Den: 9}}, offer(7, 2, 8, 3, 2)}, by(4, 6), []fills.Fill{fill(7, 4, 6)},
			[]api.Line{line(1, 3, 2, 9, 4), line(2, 2, 1, 99, 6), line(3, 2, 1, 9, 0), line(3, 3, 2, 9, 0)},
			[]api.Offer{{Seq: 1, Owner: 2, Sell: 2, Buy: 1, Left: 9, Rate: api.Rat{Num: 1, Den: 9}}, {Seq: 2, Owner: 2, Sell: 1, Buy: 3, Left: 9, Rate: api.Rat{Num: 1, Den: 9}}, {Seq: 3, Owner: 2, Sell: 3, Buy: 2, Left: 9, Rate: api.Rat{Num: 1, Den: 9}}, offer(7, 2, 4, 3, 2)}},
		// Of the greatest currencies, by the greatest parties.
		{[]api.Line{line(8, 15, 16, 9, 0), line(7, 16, 14, 9, 0)}, []api.Offer{{Seq: 9, Owner: 16, Sell: 8, Buy: 7, Left: 5, Rate: api.Rat{Num: 1, Den: 1}}}, ask{14, 15, 8, 7, 4, 4},
			[]fills.Fill{{Seq: 9, Taker: 14, To: 15, Got: 4, Given: 4}}, []api.Line{line(7, 16, 14, 9, 4), line(8, 15, 16, 9, 4)}, []api.Offer{{Seq: 9, Owner: 16, Sell: 8, Buy: 7, Left: 1, Rate: api.Rat{Num: 1, Den: 1}}}},
	} {
		what := fmt.Sprint(i)
		h := stocked(all(), c.lines, c.offers...).house(t)
		given := int64(0)
		for _, f := range c.fills {
			given += f.Given
		}
		for _, limit := range []int64{given, given + 1, amount, max(given, c.ask.most)} {
			c.ask.most = limit
			after := done(t, what, h, c.ask, c.fills...)
			stocked(all(), c.linesAfter, c.left...).holds(t, what, after)
		}
		for _, limit := range []int64{given - 1, 1} {
			if limit > 0 && limit < given {
				c.ask.most = limit
				refused(t, what, h, c.ask, api.ErrMax)
			}
		}
	}
}

// P11.1, P11.3: a better offer of which nothing may be filled is passed over; as soon as something may be, it is filled ahead of the others.
func TestPassedOver(t *testing.T) {
	was := stocked(all()[:5], []api.Line{line(1, 3, 4, 9, 0), line(2, 4, 1, 99, 0)}, offer(1, 2, 4, 1, 1), offer(2, 4, 9, 3, 1), offer(3, 5, 4, 2, 1))
	h := was.house(t)
	done(t, "no way", h, by(3, 9), fill(2, 3, 9))
	h.L.Trust(3, 2, 1, 2)
	done(t, "no way of what is bought", h, by(3, 9), fill(2, 3, 9))
	h.L.Trust(2, 1, 2, 99)
	done(t, "the first", h, by(3, 9), fill(1, 2, 2), fill(2, 1, 3))
	h.L.Trust(5, 1, 2, 1)
	h.L.Trust(3, 5, 1, 9)
	done(t, "too little of what is bought", h, by(3, 9), fill(1, 2, 2), fill(2, 1, 3))
	h.L.Trust(5, 1, 2, 3)
	done(t, "one of the third", h, by(4, 9), fill(1, 2, 2), fill(3, 1, 2), fill(2, 1, 3))
	h.L.Trust(5, 1, 2, 4)
	h = done(t, "two of the third", h, by(4, 9), fill(1, 2, 2), fill(3, 2, 4))
	// What one swap has used up the next one passes over.
	h = done(t, "used up", h, by(1, 3), fill(2, 1, 3))
	h.L.Trust(3, 2, 1, 3)
	h = done(t, "more of the first", h, by(1, 1), fill(1, 1, 1))
	h.L.Trust(5, 1, 2, 8)
	h = done(t, "more of the third", h, by(3, 99), fill(3, 2, 4), fill(2, 1, 3))
	refused(t, "at the end", h, by(8, 99), api.ErrRoute)
	h = done(t, "at the end", h, by(7, 21), fill(2, 7, 21))
	stock{all()[:5], sorted([]api.Line{line(1, 3, 2, 3, 3), line(1, 3, 4, 9, 9), line(1, 3, 5, 9, 4), line(2, 2, 1, 99, 3), line(2, 4, 1, 99, 27), line(2, 5, 1, 8, 8)}), []api.Offer{offer(1, 2, 1, 1, 1)}, 99}.holds(t, "at the end", h)
}

// P11.1, P11.3: as many better ones as a book may have are passed over.
func TestPassedOverByMany(t *testing.T) {
	var offers []api.Offer
	for i := range uint64(api.MaxOffers) {
		offers = append(offers, offer(i+1, []api.Party{4, 5}[i%2], 9, int64(i)+1, 1))
	}
	offers[31].Owner = 2
	h := stocked(all()[:5], []api.Line{line(1, 3, 2, 9, 0), line(2, 2, 1, 999, 0), line(2, 4, 1, 999, 0)}, offers...).house(t)
	h = done(t, "the last one", h, by(4, 128), fill(32, 4, 128))
	refused(t, "the last one", h, by(6, 999), api.ErrRoute)
	h.L.Trust(3, 4, 1, 2)
	done(t, "better ones", h, by(3, 34), fill(1, 2, 2), fill(32, 1, 32))
}

// P11.1, P11.3: an offer of the taker's own is passed over, toward whomever; one whose owner is no party of the ledger, too.
func TestOwn(t *testing.T) {
	lines := []api.Line{line(1, 3, 1, 99, 0), line(1, 3, 2, 99, 0), line(1, 1, 2, 99, 0), line(2, 2, 1, 99, 0), line(2, 1, 2, 99, 9)}
	h := stocked(all()[:3], lines, offer(1, 1, 9, 1, 9), offer(2, 1, 9, 1, 1), offer(3, 9, 9, 1, 1), offer(4, 2, 5, 2, 1), offer(5, 1, 9, 3, 1)).house(t)
	for _, to := range []api.Party{1, 2, 3} {
		done(t, "own", h, ask{1, to, 1, 2, 5, 99}, toward(to, 4, 5, 10))
		refused(t, "own", h, ask{1, to, 1, 2, 6, 99}, api.ErrRoute)
	}
	h.B.Cancel(2, 4)
	for _, to := range []api.Party{1, 2, 3} {
		refused(t, "nothing but own", h, ask{1, to, 1, 2, 1, 99}, api.ErrRoute)
	}
}

// P11.1, P11.3: toward oneself, toward another one, and toward an offer's owner, who pays nobody.
func TestToward(t *testing.T) {
	lines := []api.Line{line(1, 1, 2, 5, 0), line(1, 3, 2, 4, 0), line(1, 2, 4, 3, 0), line(2, 2, 1, 50, 0), line(2, 4, 1, 50, 0)}
	offers := []api.Offer{offer(1, 2, 6, 1, 1), offer(2, 4, 6, 2, 1)}
	h := stocked(all()[:4], lines, offers...).house(t)
	// What 4 pays 1 would go over 2, who has paid 1 all they may by then.
	after := done(t, "oneself", h, ask{1, 1, 1, 2, 5, 99}, toward(1, 1, 5, 5))
	stocked(all()[:4], []api.Line{line(1, 1, 2, 5, 5), line(1, 2, 4, 3, 0), line(1, 3, 2, 4, 0), line(2, 2, 1, 50, 5), line(2, 4, 1, 50, 0)}, offer(1, 2, 1, 1, 1), offers[1]).holds(t, "oneself", after)
	refused(t, "oneself", h, ask{1, 1, 1, 2, 6, 99}, api.ErrRoute)
	done(t, "another one", h, ask{1, 3, 1, 2, 4, 99}, toward(3, 1, 4, 4))
	refused(t, "another one", h, ask{1, 3, 1, 2, 5, 99}, api.ErrRoute)
	// 2 gets of 2 what is left of it, whatever goes from them; of 4 as much as goes.
	after = done(t, "an owner", h, ask{1, 2, 1, 2, 9, 12}, toward(2, 1, 6, 6), toward(2, 2, 3, 6))
	stocked(all()[:4], []api.Line{line(1, 1, 2, 5, 0), line(1, 2, 4, 3, 3), line(1, 3, 2, 4, 0), line(2, 2, 1, 50, 6), line(2, 4, 1, 50, 6)}, offer(2, 4, 3, 2, 1)).holds(t, "an owner", after)
	refused(t, "an owner", h, ask{1, 2, 1, 2, 9, 11}, api.ErrMax)
	refused(t, "an owner", h, ask{1, 2, 1, 2, 10, 99}, api.ErrRoute)
	// The owner of the second one: nothing goes to them from 2.
	done(t, "the second owner", h, ask{1, 4, 1, 2, 6, 99}, toward(4, 2, 6, 12))
	refused(t, "the second owner", h, ask{1, 4, 1, 2, 7, 99}, api.ErrRoute)
	// By an owner, of another one's offer, toward themselves, and toward that one.
	h.L.Trust(4, 2, 1, 1)
	h.L.Trust(2, 4, 2, 3)
	done(t, "by an owner", h, ask{4, 4, 1, 2, 1, 9}, fills.Fill{Seq: 1, Taker: 4, To: 4, Got: 1, Given: 1})
	done(t, "by an owner", h, ask{4, 2, 1, 2, 3, 9}, fills.Fill{Seq: 1, Taker: 4, To: 2, Got: 3, Given: 3})
	refused(t, "by an owner", h, ask{4, 4, 1, 2, 2, 9}, api.ErrRoute)
}

// P11.1: amounts of 1 and of MaxAmount, and both bounds of what may be given.
func TestAmounts(t *testing.T) {
	for i, c := range []struct {
		num, den int64
		n, given int64
	}{
		{1, 1, 1, 1}, {3, 2, 1, 2}, {1, 9, 1, 1}, {1, term, 1, 1}, {term, 1, 1, amount}, {term - 1, 1, 1, amount - 1}, {term, term - 1, 1, 2},
		{1, 1, amount, amount}, {1, 1, amount - 1, amount - 1}, {1, term, amount, 1}, {term - 1, term, amount, amount - 1}, {term, term - 1, amount - 1, amount},
		{1, 2, amount, amount / 2}, {2, 1, amount / 2, amount}, {3, 2, 733007751850, amount - 1},
	} {
		what := fmt.Sprint(i)
		h := stocked(all()[:5], wide(), offer(7, 2, amount, c.num, c.den)).house(t)
		done(t, what, h, by(c.n, amount), fill(7, c.n, c.given))
		done(t, what, h, by(c.n, c.given), fill(7, c.n, c.given))
		if c.given > 1 {
			refused(t, what, h, by(c.n, c.given-1), api.ErrMax)
			refused(t, what, h, by(c.n, 1), api.ErrMax)
		}
	}
	// Of several, together.
	h := stocked(all()[:5], wide(), offer(7, 2, 1, 1, 1), offer(8, 4, amount, 1, 1), offer(9, 5, amount, term, 1)).house(t)
	done(t, "several", h, by(amount, amount), fill(7, 1, 1), fill(8, amount-1, amount-1))
	refused(t, "several", h, by(amount, amount-1), api.ErrMax)
}

// P11.1: more was given than most is told in the end alone: what may be given at most bounds no fill, and MaxAmount bounds each by itself.
func TestMost(t *testing.T) {
	offers := []api.Offer{offer(7, 2, 9, 2, 1), offer(8, 4, 99, 3, 1)}
	h := stocked(all()[:5], wide(), offers...).house(t)
	// Too little for one; for one, but not for all; in each case more is given, as if there were no bound.
	for limit := int64(1); limit < 27; limit++ {
		refused(t, "too little", h, by(12, limit), api.ErrMax)
	}
	done(t, "enough", h, by(12, 27), fill(7, 9, 18), fill(8, 3, 9))
	// As many fills as were needed by so little each would be too many: one alone is enough.
	refused(t, "one each", stocked(all()[:5], wide(), offer(7, 2, 999, 1, 1)).house(t), by(999, 1), api.ErrMax)
	// Other errors come ahead.
	refused(t, "no way", h, by(109, 1), api.ErrRoute)
	refused(t, "no way", h, by(109, 18), api.ErrRoute)
	refused(t, "a way", h, by(108, 18), api.ErrMax)
	// MaxAmount bounds a fill, not the swap: another fill comes of the same offer, and more was given than may be.
	h = stocked(all()[:5], append(wide(), line(2, 1, 2, amount, amount)), offer(7, 2, 3, term, 1)).house(t)
	done(t, "at once", h, by(1, amount), fill(7, 1, amount))
	refused(t, "twice", h, by(2, amount), api.ErrMax)
	refused(t, "three times", h, by(3, amount), api.ErrRoute)
}

// P11.1: all offers that a book may have, one fill each.
func TestAllOffers(t *testing.T) {
	var offers []api.Offer
	var want []fills.Fill
	for i := range int64(api.MaxOffers) {
		offers = append(offers, offer(uint64(i+1), []api.Party{2, 4, 5}[i%3], 2, api.MaxOffers-i, 1))
		want = append(want, fill(uint64(api.MaxOffers-i), 2, 2*(i+1)))
	}
	h := stocked(all()[:5], wide(), offers...).house(t)
	after := done(t, "all", h, by(64, 1056), want...)
	if list := after.B.All(); len(list) != 0 || after.B.Next() != 99 {
		t.Errorf("offers %v are left, the next number is %d", list, after.B.Next())
	}
	refused(t, "all", h, by(64, 1055), api.ErrMax)
	refused(t, "one more", h, by(65, amount), api.ErrRoute)
	want[31].Got, want[31].Given = 1, 32
	done(t, "one less", h, by(63, 1024), want...)
}

// broad lines let 1 give 2 as much of 2 as lines can: twice MaxAmount directly, and over each other party.
func broad() []api.Line {
	lines := []api.Line{line(1, 16, 2, amount, 0), line(2, 2, 1, amount, 0), line(2, 1, 2, amount, amount)}
	for _, p := range all()[2:] {
		lines = append(lines, line(2, p, 1, amount, 0), line(2, 1, p, amount, amount), line(2, 2, p, amount, 0), line(2, p, 2, amount, amount))
	}
	return lines
}

// dear is an offer of which one may be filled at once, 59 times by broad lines.
func dear(seq uint64) api.Offer { return offer(seq, 2, 999, term/2+1, 1) }

// P11.1: just so many fills as MaxFills, and one more. So many come of offers by which more than MaxAmount is given alone, so the swap fails in the end in any case.
func TestMaxFills(t *testing.T) {
	for cheap := int64(3); cheap <= 7; cheap++ {
		var offers []api.Offer
		for i := range cheap {
			offers = append(offers, offer(uint64(i+1), 2, 1, 1, 1))
		}
		h := stocked(all(), broad(), append(offers, dear(9))...).house(t)
		what := fmt.Sprintf("%d cheap ones", cheap)
		for _, to := range []api.Party{2, 16} {
			done(t, what, h, ask{1, to, 1, 2, cheap + 1, amount}, append(ones(to, cheap), toward(to, 9, 1, term/2+1))...)
			// One at once: the cheap ones, then 59 dear ones.
			for _, n := range []int64{cheap + 2, 61, 62, 63, 64, 65, 66, 67, 99, amount} {
				want := api.ErrMax
				switch {
				case n > 64 && cheap+59 > 64:
					want = api.ErrQuota
				case n > cheap+59:
					want = api.ErrRoute
				}
				refused(t, what, h, ask{1, to, 1, 2, n, amount}, want)
			}
		}
		// However little may be given, it is asked in the end alone.
		for _, n := range []int64{64, 65} {
			_, _, e := ask{1, 16, 1, 2, n, amount}.swap(h)
			refused(t, what, h, ask{1, 16, 1, 2, n, 1}, e)
		}
	}
}

// ones are fills of the first offers, one for one.
func ones(to api.Party, n int64) (list []fills.Fill) {
	for i := range n {
		list = append(list, toward(to, uint64(i+1), 1, 1))
	}
	return list
}

// P11.1: what is wanted behind MaxFills fills: of fills that get several at once, too, and of another, dearer offer, of which something may be filled, or nothing.
func TestBehindMaxFills(t *testing.T) {
	// 6 cheap fills, which get 10, then 58 dear ones.
	offers := []api.Offer{offer(1, 2, 5, 1, 1), offer(2, 2, 1, 1, 1), offer(3, 2, 1, 1, 1), offer(4, 2, 1, 1, 1), offer(5, 2, 1, 1, 1), offer(6, 2, 1, 1, 1), offer(9, 2, 58, term/2+1, 1)}
	h := stocked(all(), broad(), offers...).house(t)
	refused(t, "63 fills", h, ask{1, 16, 1, 2, 67, amount}, api.ErrMax)
	refused(t, "64 fills", h, ask{1, 16, 1, 2, 68, amount}, api.ErrMax)
	refused(t, "nothing behind", h, ask{1, 16, 1, 2, 69, amount}, api.ErrRoute)
	another := offer(12, 3, 9, term/2+2, 1)
	h = stocked(all(), broad(), append(offers, another)...).house(t)
	refused(t, "64 fills", h, ask{1, 16, 1, 2, 68, amount}, api.ErrMax)
	refused(t, "no way of the one behind", h, ask{1, 16, 1, 2, 69, amount}, api.ErrRoute)
	h.L.Trust(16, 3, 1, 1)
	refused(t, "one behind", h, ask{1, 16, 1, 2, 69, amount}, api.ErrQuota)
	refused(t, "one behind, and then none", h, ask{1, 16, 1, 2, 71, amount}, api.ErrQuota)
	refused(t, "64 fills", h, ask{1, 16, 1, 2, 68, amount}, api.ErrMax)
	h.B.Cancel(2, 6)
	refused(t, "63 fills, and one behind", h, ask{1, 16, 1, 2, 68, amount}, api.ErrMax)
	refused(t, "63 fills, and one behind, and then none", h, ask{1, 16, 1, 2, 69, amount}, api.ErrRoute)
}

// R1, R4, R5: the house that is answered, the one that is handed in, and another answer share nothing.
func TestSharesNothing(t *testing.T) {
	was := stocked(all()[:4], []api.Line{line(1, 3, 2, 9, 0), line(2, 2, 1, 99, 0)}, offer(1, 2, 4, 1, 1), offer(2, 2, 4, 2, 1))
	h := was.house(t)
	want := []fills.Fill{fill(1, 4, 4), fill(2, 1, 2)}
	after, list, e := by(5, 9).swap(h)
	again, other, _ := by(5, 9).swap(h)
	if e != api.OK || !slices.Equal(list, want) || !slices.Equal(other, want) {
		t.Fatalf("%v, %v, %v", list, other, e)
	}
	is := stockOf(after)
	clear(list)
	list = append(list, fills.Fill{Seq: 9})
	if !slices.Equal(other, want) {
		t.Errorf("the other fills are %v", other)
	}
	// What is done with one of the three is not seen in the others.
	h.L.Push(2, 3, 1, 1)
	h.L.Open(9)
	h.B.Take(2, 2)
	is.holds(t, "behind what the first one does", after)
	is.holds(t, "behind what the first one does, again", again)
	moved := stockOf(h)
	after.L.Push(1, 2, 2, 5)
	after.L.Trust(3, 2, 1, 0)
	after.L.Open(8)
	after.B.Cancel(2, 2)
	after.B.Place(1, 1, 2, 1, api.Rat{Num: 1, Den: 1})
	moved.holds(t, "behind what the answered one does", h)
	is.holds(t, "behind what the answered one does, again", again)
}

// P11.2: what was given, together, whatever the fills are.
func TestGiven(t *testing.T) {
	for i, c := range []struct {
		given []int64
		n     int64
	}{
		{nil, 0}, {[]int64{}, 0}, {[]int64{0}, 0}, {[]int64{3}, 3}, {[]int64{3, 4}, 7}, {[]int64{1, 2, 3, 4, 5, 6}, 21}, {[]int64{amount, amount}, 2 * amount}, {[]int64{amount, 1, amount}, 2*amount + 1},
		{[]int64{-3}, -3}, {[]int64{-3, 4}, 1},
		// At the bounds, and above, also on the way alone.
		{[]int64{most}, most}, {[]int64{most - 1, 1}, most}, {[]int64{1, most - 1}, most}, {[]int64{most, 1}, 0}, {[]int64{1, most}, 0}, {[]int64{most, most}, 0}, {[]int64{most, most, 2}, 0},
		{[]int64{most, most, most}, 0}, {[]int64{least}, least}, {[]int64{least, -1}, 0}, {[]int64{least, least}, 0}, {[]int64{most, 1, -1}, most}, {[]int64{least, -1, 1}, least}, {[]int64{most, least}, -1}, {[]int64{least, least, most, most}, -2},
		{[]int64{1 << 62, 1 << 62}, 0}, {[]int64{1 << 62, 1<<62 - 1}, most}, {[]int64{1 << 62, 1 << 62, 1 << 62, 1 << 62}, 0},
	} {
		var list []fills.Fill
		for j, n := range c.given {
			list = append(list, fills.Fill{Seq: uint64(j), Taker: 9, To: 8, Got: 77, Given: n})
		}
		if c.given != nil && list == nil {
			list = []fills.Fill{}
		}
		was := slices.Clone(list)
		if n := swaps.Given(list); n != c.n {
			t.Errorf("%d: %d, not %d", i, n, c.n)
		}
		if !slices.Equal(list, was) {
			t.Errorf("%d: the fills changed: %v", i, list)
		}
	}
	// Of what is got nothing is told, however much it is.
	if n := swaps.Given([]fills.Fill{{Got: most, Given: 1}, {Got: most, Given: 2, Seq: math.MaxUint64, Taker: 255, To: 255}}); n != 3 {
		t.Errorf("%d, not 3", n)
	}
	// Of many.
	if n := swaps.Given(slices.Repeat([]fills.Fill{{Given: 3}}, 100000)); n != 300000 {
		t.Errorf("%d, not 300000", n)
	}
}

// P11.1: each thing that may be wrong, at its bounds, with nothing else wrong.
func TestWrong(t *testing.T) {
	h := stocked(all()[:4], []api.Line{line(1, 3, 2, 9, 0), line(1, 1, 2, 9, 0), line(2, 2, 1, 99, 0)}, offer(7, 2, 8, 1, 1)).house(t)
	for _, n := range []int64{0, -1, -8, -amount, least, amount + 1, 2 * amount, most} {
		refused(t, "n", h, by(n, 9), api.ErrArg)
		refused(t, "most", h, by(1, n), api.ErrArg)
		refused(t, "both", h, by(n, n), api.ErrArg)
	}
	for p := range 256 {
		want := api.ErrNone
		switch {
		case p < 1 || p > 16:
			want = api.ErrArg
		case p <= 4:
			continue
		}
		refused(t, "by", h, ask{api.Party(p), 3, 1, 2, 1, 1}, want)
		refused(t, "toward", h, ask{1, api.Party(p), 1, 2, 1, 1}, want)
		refused(t, "by and toward", h, ask{api.Party(p), api.Party(p), 1, 2, 1, 1}, want)
	}
	for c := range 256 {
		want := api.ErrRoute
		if c < 1 || c > 8 {
			want = api.ErrArg
		}
		if c != 1 {
			refused(t, "of another one", h, ask{1, 3, api.Currency(c), 1, 1, 1}, want)
		}
		if c != 2 {
			refused(t, "for another one", h, ask{1, 3, 2, api.Currency(c), 1, 1}, want)
		}
		refused(t, "the same", h, ask{1, 3, api.Currency(c), api.Currency(c), 1, 1}, api.ErrArg)
	}
	// With nothing wrong they go: toward one another, too.
	done(t, "well", h, by(1, 1), fill(7, 1, 1))
	done(t, "well", h, ask{1, 1, 1, 2, 8, amount}, toward(1, 7, 8, 8))
	done(t, "well", h, ask{1, 2, 1, 2, 8, 8}, toward(2, 7, 8, 8))
	refused(t, "well", h, ask{1, 4, 1, 2, 1, 1}, api.ErrRoute)
	refused(t, "well", h, ask{2, 3, 1, 2, 1, 1}, api.ErrRoute)
	refused(t, "well", h, by(amount, amount), api.ErrRoute)
}

// P11.1, R2: of several errors the first that the promise names is told.
func TestFirstError(t *testing.T) {
	h := stocked(all()[:4], []api.Line{line(1, 3, 2, 9, 0), line(2, 2, 1, 99, 0)}, offer(7, 2, 8, 2, 1)).house(t)
	for i, c := range []struct {
		ask ask
		e   api.Errno
	}{
		// What may not be, ahead of who is no party of the ledger.
		{ask{5, 3, 1, 1, 1, 1}, api.ErrArg}, {ask{5, 3, 0, 2, 1, 1}, api.ErrArg}, {ask{5, 3, 1, 9, 1, 1}, api.ErrArg}, {ask{5, 3, 1, 2, 0, 1}, api.ErrArg}, {ask{5, 3, 1, 2, 1, 0}, api.ErrArg},
		{ask{1, 5, 1, 2, amount + 1, 1}, api.ErrArg}, {ask{1, 5, 1, 2, 1, amount + 1}, api.ErrArg}, {ask{5, 17, 1, 2, 1, 1}, api.ErrArg}, {ask{17, 5, 1, 2, 1, 1}, api.ErrArg}, {ask{0, 5, 1, 2, 1, 1}, api.ErrArg}, {ask{5, 0, 1, 2, 1, 1}, api.ErrArg},
		// That, ahead of no way, and of too little.
		{ask{5, 3, 1, 2, 9, 1}, api.ErrNone}, {ask{1, 5, 1, 2, 9, 1}, api.ErrNone}, {ask{1, 5, 1, 2, 8, 1}, api.ErrNone}, {ask{5, 6, 3, 4, amount, amount}, api.ErrNone},
		// No way, ahead of too little.
		{by(9, 1), api.ErrRoute}, {by(9, 16), api.ErrRoute}, {by(amount, 1), api.ErrRoute}, {ask{1, 4, 1, 2, 1, 1}, api.ErrRoute},
		{by(8, 15), api.ErrMax}, {by(8, 1), api.ErrMax},
	} {
		refused(t, fmt.Sprint(i), h, c.ask, c.e)
	}
	done(t, "well", h, by(8, 16), fill(7, 8, 16))
}

// R1, R3, P11.1: without a ledger, or a book, or with one that no call made, ErrNil comes ahead of all else; those that were made, and have nothing, are there.
func TestNothing(t *testing.T) {
	tried := new(ledgers.Ledger)
	tried.Open(1)
	placed := new(books.Book)
	placed.Place(1, 1, 2, 9, api.Rat{Num: 1, Den: 1})
	full := stocked(all()[:3], []api.Line{line(1, 3, 2, 9, 0), line(2, 2, 1, 9, 0)}, offer(7, 2, 8, 1, 1)).house(t)
	noLedgers, noBooks := []*ledgers.Ledger{nil, {}, tried}, []*books.Book{nil, {}, placed}
	var houses []fills.House
	for i := range 3 {
		for j := range 3 {
			houses = append(houses, fills.House{L: noLedgers[i], B: noBooks[j]})
		}
		houses = append(houses, fills.House{L: full.L, B: noBooks[i]}, fills.House{L: noLedgers[i], B: full.B})
		houses = append(houses, fills.House{L: ledgers.New(), B: noBooks[i]}, fills.House{L: noLedgers[i], B: books.New()})
	}
	for i, h := range houses {
		for _, a := range []ask{by(1, 1), by(0, 0), by(amount+1, 1), by(1, 0), by(least, most), {}, {1, 1, 1, 1, 1, 1}, {0, 3, 1, 2, 1, 1}, {1, 17, 1, 2, 1, 1}, {1, 3, 0, 2, 1, 1}, {1, 3, 1, 9, 1, 1}, {5, 3, 1, 2, 1, 1}, {1, 5, 1, 2, 1, 1}, by(9, 1), by(amount, amount), {255, 255, 255, 255, most, most}} {
			refused(t, fmt.Sprint(i), h, a, api.ErrNil)
		}
	}
	for i, b := range []*books.Book{books.New(), full.B} {
		h := fills.House{L: ledgers.New(), B: b}
		refused(t, fmt.Sprint("there ", i), h, by(0, 1), api.ErrArg)
		refused(t, fmt.Sprint("there ", i), h, by(1, 1), api.ErrNone)
	}
	h := fills.House{L: full.L, B: books.New()}
	refused(t, "no offers", h, by(0, 1), api.ErrArg)
	refused(t, "no offers", h, by(1, 1), api.ErrRoute)
	done(t, "full", full, by(8, 8), fill(7, 8, 8))
}
