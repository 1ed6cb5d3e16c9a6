package places_test

import (
	"cmp"
	"fmt"
	"math"
	"slices"
	"testing"

	"countinghouse/api"
	"countinghouse/books"
	"countinghouse/fills"
	"countinghouse/ledgers"
	"countinghouse/places"
)

const (
	amount = api.MaxAmount
	term   = api.MaxTerm
	most   = math.MaxInt64
	least  = math.MinInt64
	last   = uint64(math.MaxUint64)
)

// line as the document's lists have it: of a currency, creditor, debtor, limit, debt.
func line(c api.Currency, creditor, debtor api.Party, limit, debt int64) api.Line {
	return api.Line{Creditor: creditor, Debtor: debtor, Currency: c, Limit: limit, Debt: debt}
}

// offer of a number that stands: its owner sells so much of 1 for 2, at a rate.
func offer(seq uint64, owner api.Party, left, num, den int64) api.Offer {
	return api.Offer{Seq: seq, Owner: owner, Sell: 1, Buy: 2, Left: left, Rate: api.Rat{Num: num, Den: den}}
}

// comes is an offer of 1's that comes: so much of 2 for 1, at a rate.
func comes(left, num, den int64) api.Offer {
	return api.Offer{Owner: 1, Sell: 2, Buy: 1, Left: left, Rate: api.Rat{Num: num, Den: den}}
}

// fill by 1, toward 1.
func fill(seq uint64, got, given int64) fills.Fill {
	return fills.Fill{Seq: seq, Taker: 1, To: 1, Got: got, Given: given}
}

// all parties, rising.
func all() (l []api.Party) {
	for p := range api.Party(16) {
		l = append(l, p+1)
	}
	return l
}

// sorted as a ledger tells them: by currency, of one by creditor, of one by debtor.
func sorted(lines []api.Line) []api.Line {
	lines = slices.Clone(lines)
	slices.SortFunc(lines, func(a, b api.Line) int {
		return cmp.Or(cmp.Compare(a.Currency, b.Currency), cmp.Compare(a.Creditor, b.Creditor), cmp.Compare(a.Debtor, b.Debtor))
	})
	return lines
}

// A stock is all that a house has.
type stock struct {
	parties []api.Party
	lines   []api.Line
	offers  []api.Offer
	next    uint64
}

// stocked is a stock that is a house's own: with rising offers, and a next number behind them.
func stocked(parties []api.Party, lines []api.Line, offers ...api.Offer) stock {
	return stock{parties, sorted(lines), offers, 99}
}

// with what is left of an offer besides, placed; as it is, if that is nothing.
func (s stock) with(o api.Offer, left int64) stock {
	if left > 0 {
		o.Seq, o.Left = s.next, left
		s.offers = append(slices.Clone(s.offers), o)
		s.next++
	}
	return s
}

// house of a stock.
func (s stock) house(t *testing.T) fills.House {
	t.Helper()
	l, e := ledgers.Of(s.parties, s.lines)
	if e != api.OK || l == nil {
		t.Fatalf("ledgers.Of(%v, %v): %v", s.parties, s.lines, e)
	}
	b, e := books.Of(s.offers, s.next)
	if e != api.OK || b == nil {
		t.Fatalf("books.Of(%v, %d): %v", s.offers, s.next, e)
	}
	return fills.House{L: l, B: b}
}

// stockOf tells a house's, such as has nothing.
func stockOf(h fills.House) stock {
	return stock{h.L.Parties(), h.L.Lines(), h.B.All(), h.B.Next()}
}

// holds asks whether a house has just that.
func (s stock) holds(t *testing.T, what string, h fills.House) {
	t.Helper()
	is := stockOf(h)
	if !slices.Equal(is.parties, s.parties) || is.next != s.next {
		t.Fatalf("%s: parties %v, next number %d; not %v, %d", what, is.parties, is.next, s.parties, s.next)
	}
	if !slices.Equal(is.lines, s.lines) {
		t.Fatalf("%s: lines %v, not %v", what, is.lines, s.lines)
	}
	if !slices.Equal(is.offers, s.offers) {
		t.Fatalf("%s: offers %v, not %v", what, is.offers, s.offers)
	}
}

// refused places an offer that may not be placed: nothing is told, and the house stays.
func refused(t *testing.T, what string, h fills.House, o api.Offer, e api.Errno) {
	t.Helper()
	was := stockOf(h)
	what = fmt.Sprintf("%s: Place(%v)", what, o)
	after, list, seq, got := places.Place(h, o)
	if after != (fills.House{}) || list != nil || seq != 0 || got != e {
		t.Fatalf("%s: %v, %v, %d, %v; not %v", what, after, list, seq, got, e)
	}
	was.holds(t, what, h)
}

// done places an offer: its fills, and the number of what is placed, in a house of its own; the one that is handed in stays.
func done(t *testing.T, what string, h fills.House, o api.Offer, number uint64, want ...fills.Fill) fills.House {
	t.Helper()
	was := stockOf(h)
	what = fmt.Sprintf("%s: Place(%v)", what, o)
	after, list, seq, e := places.Place(h, o)
	if !slices.Equal(list, want) || seq != number || e != api.OK {
		t.Fatalf("%s: %v, %d, %v; not %v, %d", what, list, seq, e, want, number)
	}
	if cap(list) != len(list) {
		t.Fatalf("%s: room for %d behind %d fills", what, cap(list)-len(list), len(list))
	}
	if after.L == nil || after.B == nil || after.L == h.L || after.B == h.B {
		t.Fatalf("%s: the house is %v, of %v", what, after, h)
	}
	was.holds(t, what, h)
	return after
}

// wide lines: 1 gets as much as may be of 1 from 2, 4 and 5, and gives them as much as may be of 2.
func wide() []api.Line {
	return []api.Line{
		line(1, 1, 2, amount, 0), line(1, 1, 4, amount, 0), line(1, 1, 5, amount, 0),
		line(2, 2, 1, amount, 0), line(2, 4, 1, amount, 0), line(2, 5, 1, amount, 0),
	}
}

// The document's examples.
func TestExamples(t *testing.T) {
	h := fills.House{L: ledgers.New(), B: books.New()}
	for _, p := range all()[:3] {
		h.L.Open(p)
	}
	h.L.Trust(3, 2, 1, 9)
	h.L.Trust(2, 1, 2, 7)
	h.L.Trust(1, 2, 1, 9)
	h.B.Place(2, 1, 2, 5, api.Rat{Num: 3, Den: 2})
	h.B.Place(2, 1, 2, 5, api.Rat{Num: 1, Den: 1})
	after := done(t, "example", h, comes(7, 1, 1), 3, fill(2, 5, 5))
	stock{all()[:3], []api.Line{line(1, 1, 2, 9, 5), line(1, 3, 2, 9, 0), line(2, 2, 1, 7, 5)}, []api.Offer{offer(1, 2, 5, 3, 2), {Seq: 3, Owner: 1, Sell: 2, Buy: 1, Left: 2, Rate: api.Rat{Num: 1, Den: 1}}}, 4}.holds(t, "example", after)
	after = done(t, "example", h, comes(7, 2, 3), 0, fill(2, 5, 5), fill(1, 1, 2))
	stock{all()[:3], []api.Line{line(1, 1, 2, 9, 6), line(1, 3, 2, 9, 0), line(2, 2, 1, 7, 7)}, []api.Offer{offer(1, 2, 4, 3, 2)}, 3}.holds(t, "example", after)
}

// P12.1, P12.2: offers by hand: their fills, what the house has by then, and what is placed; whatever their numbers are.
func TestPlace(t *testing.T) {
	direct := []api.Line{line(1, 1, 2, 20, 0), line(2, 2, 1, 99, 0)}
	sold := func(got, given int64) []api.Line {
		return []api.Line{line(1, 1, 2, 20, got), line(2, 2, 1, 99, given)}
	}
	both := append([]api.Line{line(1, 1, 4, 2, 0), line(2, 4, 1, 4, 0)}, direct...)
	bothSold := func(got, given, got4, given4 int64) []api.Line {
		return append(sold(got, given), line(1, 1, 4, 2, got4), line(2, 4, 1, 4, given4))
	}
	others := []api.Offer{
		{Seq: 1, Owner: 2, Sell: 2, Buy: 1, Left: 9, Rate: api.Rat{Num: 1, Den: 9}}, {Seq: 2, Owner: 2, Sell: 1, Buy: 3, Left: 9, Rate: api.Rat{Num: 1, Den: 9}},
		{Seq: 3, Owner: 2, Sell: 3, Buy: 2, Left: 9, Rate: api.Rat{Num: 1, Den: 9}}, {Seq: 4, Owner: 2, Sell: 2, Buy: 3, Left: 9, Rate: api.Rat{Num: 1, Den: 9}}, {Seq: 5, Owner: 2, Sell: 3, Buy: 1, Left: 9, Rate: api.Rat{Num: 1, Den: 9}},
	}
	for i, c := range []struct {
		lines      []api.Line
		offers     []api.Offer
		comes      api.Offer
		fills      []fills.Fill
		linesAfter []api.Line
		offersLeft []api.Offer
		left       int64 // of the one that comes
	}{
		// Against none.
		{direct, nil, comes(7, 1, 1), nil, direct, nil, 7},
		{nil, nil, comes(7, 3, 2), nil, nil, nil, 7},
		{direct, others, comes(7, 1, 1), nil, direct, others, 7},
		// Against one: some of it, just what is left of it, and one more.
		{direct, []api.Offer{offer(7, 2, 8, 1, 1)}, comes(1, 1, 1), []fills.Fill{fill(7, 1, 1)}, sold(1, 1), []api.Offer{offer(7, 2, 7, 1, 1)}, 0},
		{direct, []api.Offer{offer(7, 2, 8, 1, 1)}, comes(7, 1, 1), []fills.Fill{fill(7, 7, 7)}, sold(7, 7), []api.Offer{offer(7, 2, 1, 1, 1)}, 0},
		{direct, []api.Offer{offer(7, 2, 8, 1, 1)}, comes(8, 1, 1), []fills.Fill{fill(7, 8, 8)}, sold(8, 8), nil, 0},
		{direct, []api.Offer{offer(7, 2, 8, 1, 1)}, comes(9, 1, 1), []fills.Fill{fill(7, 8, 8)}, sold(8, 8), nil, 1},
		{direct, append(others, offer(7, 2, 8, 1, 1)), comes(9, 1, 1), []fills.Fill{fill(7, 8, 8)}, sold(8, 8), others, 1},
		// What is given counts, not what is got.
		{direct, []api.Offer{offer(7, 2, 8, 3, 2)}, comes(11, 2, 3), []fills.Fill{fill(7, 7, 11)}, sold(7, 11), []api.Offer{offer(7, 2, 1, 3, 2)}, 0},
		{direct, []api.Offer{offer(7, 2, 8, 3, 2)}, comes(12, 2, 3), []fills.Fill{fill(7, 8, 12)}, sold(8, 12), nil, 0},
		{direct, []api.Offer{offer(7, 2, 8, 3, 2)}, comes(15, 2, 3), []fills.Fill{fill(7, 8, 12)}, sold(8, 12), nil, 3},
		{direct, []api.Offer{offer(7, 2, 8, 1, 3)}, comes(2, 2, 1), []fills.Fill{fill(7, 6, 2)}, sold(6, 2), []api.Offer{offer(7, 2, 2, 1, 3)}, 0},
		{direct, []api.Offer{offer(7, 2, 8, 1, 3)}, comes(3, 3, 1), []fills.Fill{fill(7, 8, 3)}, sold(8, 3), nil, 0},
		{direct, []api.Offer{offer(7, 2, 8, 1, 3)}, comes(5, 3, 1), []fills.Fill{fill(7, 8, 3)}, sold(8, 3), nil, 2},
		// The rest of both stands against one another, as it is too little for one.
		{direct, []api.Offer{offer(7, 2, 8, 3, 2)}, comes(7, 2, 3), []fills.Fill{fill(7, 4, 6)}, sold(4, 6), []api.Offer{offer(7, 2, 4, 3, 2)}, 1},
		{direct, []api.Offer{offer(7, 2, 8, 5, 1)}, comes(19, 1, 5), []fills.Fill{fill(7, 3, 15)}, sold(3, 15), []api.Offer{offer(7, 2, 5, 5, 1)}, 4},
		{direct, []api.Offer{offer(7, 2, 8, 5, 1)}, comes(4, 1, 5), nil, direct, []api.Offer{offer(7, 2, 8, 5, 1)}, 4},
		// It does, as no more of 1 goes, or of 2.
		{direct, []api.Offer{offer(7, 2, 50, 2, 1)}, comes(60, 1, 2), []fills.Fill{fill(7, 20, 40)}, sold(20, 40), []api.Offer{offer(7, 2, 30, 2, 1)}, 20},
		{[]api.Line{line(1, 1, 2, 20, 0), line(2, 2, 1, 9, 0)}, []api.Offer{offer(7, 2, 50, 2, 1)}, comes(60, 1, 2), []fills.Fill{fill(7, 4, 8)}, []api.Line{line(1, 1, 2, 20, 4), line(2, 2, 1, 9, 8)}, []api.Offer{offer(7, 2, 46, 2, 1)}, 52},
		{[]api.Line{line(1, 1, 2, 20, 20), line(2, 2, 1, 9, 0)}, []api.Offer{offer(7, 2, 50, 2, 1)}, comes(60, 1, 2), nil, []api.Line{line(1, 1, 2, 20, 20), line(2, 2, 1, 9, 0)}, []api.Offer{offer(7, 2, 50, 2, 1)}, 60},
		// The best ones ahead, each as far as it goes, by rates, whatever their numbers are, till they are too great.
		{direct, []api.Offer{offer(3, 2, 2, 3, 1), offer(5, 2, 2, 1, 1), offer(7, 2, 2, 2, 1), offer(8, 2, 2, 3, 2), offer(9, 2, 9, 4, 1)}, comes(17, 1, 3), []fills.Fill{fill(5, 2, 2), fill(8, 2, 3), fill(7, 2, 4), fill(3, 2, 6)}, sold(8, 15), []api.Offer{offer(9, 2, 9, 4, 1)}, 2},
		{direct, []api.Offer{offer(3, 2, 2, 3, 1), offer(5, 2, 2, 1, 1), offer(7, 2, 2, 2, 1), offer(8, 2, 2, 3, 2)}, comes(8, 1, 3), []fills.Fill{fill(5, 2, 2), fill(8, 2, 3), fill(7, 1, 2)}, sold(5, 7), []api.Offer{offer(3, 2, 2, 3, 1), offer(7, 2, 1, 2, 1)}, 1},
		{direct, []api.Offer{offer(3, 2, 2, 3, 1), offer(5, 2, 2, 1, 1), offer(7, 2, 2, 2, 1), offer(8, 2, 2, 3, 2)}, comes(17, 2, 3), []fills.Fill{fill(5, 2, 2), fill(8, 2, 3)}, sold(4, 5), []api.Offer{offer(3, 2, 2, 3, 1), offer(7, 2, 2, 2, 1)}, 12},
		// Of one rate by numbers, of whom ever, and how much ever is left.
		{both, []api.Offer{offer(3, 4, 1, 2, 1), offer(4, 2, 3, 2, 1), offer(6, 4, 2, 2, 1), offer(9, 2, 9, 2, 1)}, comes(12, 1, 2), []fills.Fill{fill(3, 1, 2), fill(4, 3, 6), fill(6, 1, 2), fill(9, 1, 2)}, bothSold(4, 8, 2, 4), []api.Offer{offer(6, 4, 1, 2, 1), offer(9, 2, 8, 2, 1)}, 0},
		// What the last one leaves is just enough for the next one, or one less, or more.
		{direct, []api.Offer{offer(3, 2, 4, 1, 1), offer(4, 2, 3, 2, 1), offer(5, 2, 9, 3, 1)}, comes(10, 1, 3), []fills.Fill{fill(3, 4, 4), fill(4, 3, 6)}, sold(7, 10), []api.Offer{offer(5, 2, 9, 3, 1)}, 0},
		{direct, []api.Offer{offer(3, 2, 4, 1, 1), offer(4, 2, 3, 2, 1), offer(5, 2, 9, 3, 1)}, comes(9, 1, 3), []fills.Fill{fill(3, 4, 4), fill(4, 2, 4)}, sold(6, 8), []api.Offer{offer(4, 2, 1, 2, 1), offer(5, 2, 9, 3, 1)}, 1},
		{direct, []api.Offer{offer(3, 2, 4, 1, 1), offer(4, 2, 3, 2, 1), offer(5, 2, 9, 3, 1)}, comes(12, 1, 3), []fills.Fill{fill(3, 4, 4), fill(4, 3, 6)}, sold(7, 10), []api.Offer{offer(5, 2, 9, 3, 1)}, 2},
		{direct, []api.Offer{offer(3, 2, 4, 1, 1), offer(4, 2, 3, 2, 1), offer(5, 2, 9, 3, 1)}, comes(13, 1, 3), []fills.Fill{fill(3, 4, 4), fill(4, 3, 6), fill(5, 1, 3)}, sold(8, 13), []api.Offer{offer(5, 2, 8, 3, 1)}, 0},
		// A better one as far as what it sells goes, or what it buys: then the next one.
		{both, []api.Offer{offer(3, 4, 8, 1, 1), offer(4, 2, 8, 2, 1)}, comes(8, 1, 2), []fills.Fill{fill(3, 2, 2), fill(4, 3, 6)}, bothSold(3, 6, 2, 2), []api.Offer{offer(3, 4, 6, 1, 1), offer(4, 2, 5, 2, 1)}, 0},
		{append([]api.Line{line(1, 1, 4, 9, 0), line(2, 4, 1, 4, 0)}, direct...), []api.Offer{offer(3, 4, 8, 3, 2), offer(4, 2, 8, 2, 1)}, comes(9, 1, 2), []fills.Fill{fill(3, 2, 3), fill(4, 3, 6)},
			append(sold(3, 6), line(1, 1, 4, 9, 2), line(2, 4, 1, 4, 3)), []api.Offer{offer(3, 4, 6, 3, 2), offer(4, 2, 5, 2, 1)}, 0},
		// Over whoever lies between, and as a debt is paid back.
		{[]api.Line{line(1, 1, 3, 9, 0), line(1, 3, 2, 5, 0), line(2, 1, 2, 6, 6)}, []api.Offer{offer(7, 2, 50, 1, 1)}, comes(9, 1, 1), []fills.Fill{fill(7, 5, 5)}, []api.Line{line(1, 1, 3, 9, 5), line(1, 3, 2, 5, 5), line(2, 1, 2, 6, 1)}, []api.Offer{offer(7, 2, 45, 1, 1)}, 4},
		// Of the greatest currencies, by the greatest parties.
		{[]api.Line{line(8, 16, 15, 9, 0), line(7, 15, 16, 9, 0)}, []api.Offer{{Seq: 9, Owner: 15, Sell: 8, Buy: 7, Left: 5, Rate: api.Rat{Num: 1, Den: 1}}}, api.Offer{Owner: 16, Sell: 7, Buy: 8, Left: 6, Rate: api.Rat{Num: 1, Den: 1}},
			[]fills.Fill{{Seq: 9, Taker: 16, To: 16, Got: 5, Given: 5}}, []api.Line{line(8, 16, 15, 9, 5), line(7, 15, 16, 9, 5)}, nil, 1},
	} {
		h := stocked(all(), c.lines, c.offers...).house(t)
		number := uint64(0)
		if c.left > 0 {
			number = 99
		}
		for _, seq := range []uint64{0, 1, 7, 98, 99, 100, last} {
			c.comes.Seq = seq
			what := fmt.Sprintf("%d, of the number %d", i, seq)
			after := done(t, what, h, c.comes, number, c.fills...)
			stocked(all(), c.linesAfter, c.offersLeft...).with(c.comes, c.left).holds(t, what, after)
		}
	}
}

// P12.1: rates that are just the inverse of its own, less, and greater, by as little as may be.
func TestRates(t *testing.T) {
	half := int64(term / 2)
	for i, c := range []struct {
		comes, stands api.Rat
		against       bool
	}{
		{api.Rat{Num: 2, Den: 3}, api.Rat{Num: 3, Den: 2}, true}, {api.Rat{Num: 2, Den: 3}, api.Rat{Num: 2, Den: 3}, true}, {api.Rat{Num: 3, Den: 2}, api.Rat{Num: 3, Den: 2}, false}, {api.Rat{Num: 3, Den: 2}, api.Rat{Num: 2, Den: 3}, true},
		{api.Rat{Num: 1, Den: 1}, api.Rat{Num: 1, Den: 1}, true}, {api.Rat{Num: 1, Den: 1}, api.Rat{Num: term - 1, Den: term}, true}, {api.Rat{Num: 1, Den: 1}, api.Rat{Num: term, Den: term - 1}, false},
		{api.Rat{Num: 1, Den: 1}, api.Rat{Num: 1, Den: term}, true}, {api.Rat{Num: 1, Den: 1}, api.Rat{Num: term, Den: 1}, false}, {api.Rat{Num: 1, Den: 1}, api.Rat{Num: 2, Den: 1}, false}, {api.Rat{Num: 1, Den: 1}, api.Rat{Num: 1, Den: 2}, true},
		{api.Rat{Num: 2, Den: 1}, api.Rat{Num: 1, Den: 2}, true}, {api.Rat{Num: 2, Den: 1}, api.Rat{Num: half - 1, Den: term - 1}, true}, {api.Rat{Num: 2, Den: 1}, api.Rat{Num: half, Den: term - 1}, false},
		{api.Rat{Num: 1, Den: 2}, api.Rat{Num: 2, Den: 1}, true}, {api.Rat{Num: 1, Den: 2}, api.Rat{Num: term - 1, Den: half}, true}, {api.Rat{Num: 1, Den: 2}, api.Rat{Num: term - 1, Den: half - 1}, false},
		{api.Rat{Num: term, Den: 1}, api.Rat{Num: 1, Den: term}, true}, {api.Rat{Num: term, Den: 1}, api.Rat{Num: 1, Den: term - 1}, false}, {api.Rat{Num: term - 1, Den: 1}, api.Rat{Num: 1, Den: term}, true}, {api.Rat{Num: term - 1, Den: 1}, api.Rat{Num: 1, Den: term - 1}, true},
		{api.Rat{Num: 1, Den: term}, api.Rat{Num: term, Den: 1}, true}, {api.Rat{Num: 1, Den: term - 1}, api.Rat{Num: term, Den: 1}, false}, {api.Rat{Num: 1, Den: term - 1}, api.Rat{Num: term - 1, Den: 1}, true},
		{api.Rat{Num: term, Den: term - 1}, api.Rat{Num: term - 1, Den: term}, true}, {api.Rat{Num: term, Den: term - 1}, api.Rat{Num: term - 2, Den: term - 1}, true}, {api.Rat{Num: term - 1, Den: term - 2}, api.Rat{Num: term - 1, Den: term}, false},
		{api.Rat{Num: term - 1, Den: term}, api.Rat{Num: term, Den: term - 1}, true}, {api.Rat{Num: term - 1, Den: term}, api.Rat{Num: term - 1, Den: term - 2}, false}, {api.Rat{Num: term - 2, Den: term - 1}, api.Rat{Num: term, Den: term - 1}, true},
	} {
		what := fmt.Sprint(i)
		h := stocked(all(), wide(), offer(7, 2, 1, c.stands.Num, c.stands.Den)).house(t)
		o := comes(amount, c.comes.Num, c.comes.Den)
		if !c.against {
			after := done(t, what, h, o, 99)
			stocked(all(), wide(), offer(7, 2, 1, c.stands.Num, c.stands.Den)).with(o, amount).holds(t, what, after)
			continue
		}
		price := (c.stands.Num + c.stands.Den - 1) / c.stands.Den
		number := uint64(99)
		if price == amount {
			number = 0
		}
		done(t, what, h, o, number, fill(7, 1, price))
	}
}

// P12.1: those whose rates are too great stay, and just those, of however many.
func TestRatesOfMany(t *testing.T) {
	var offers []api.Offer
	for i := range int64(api.MaxOffers - 1) {
		offers = append(offers, offer(uint64(i+1), []api.Party{2, 4, 5}[i%3], 2, 40-i, 41))
	}
	h := stocked(all(), wide(), offers...).house(t)
	for num := int64(1); num <= 50; num++ {
		if num == 41 {
			continue
		}
		o := comes(amount, 41, num)
		var want []fills.Fill
		var stay []api.Offer
		given := int64(0)
		for _, x := range slices.Backward(offers) {
			if x.Rate.Num > num {
				stay = slices.Insert(stay, 0, x)
				continue
			}
			price := (2*x.Rate.Num + 40) / 41
			want = append(want, fill(x.Seq, 2, price))
			given += price
		}
		is := stockOf(done(t, "many", h, o, 99, want...))
		if o.Seq, o.Left = 99, amount-given; !slices.Equal(is.offers, append(stay, o)) {
			t.Fatalf("by %d: %v are left", num, is.offers)
		}
	}
}

// P12.1, P12.2: a better offer of which nothing may be filled is passed over; as soon as something may be, it is filled ahead of the others.
func TestPassedOver(t *testing.T) {
	h := stocked(all()[:5], []api.Line{line(1, 1, 4, 9, 0), line(2, 4, 1, 99, 0)}, offer(1, 2, 4, 1, 1), offer(2, 4, 9, 3, 1), offer(3, 5, 4, 2, 1)).house(t)
	done(t, "no way", h, comes(9, 1, 3), 0, fill(2, 3, 9))
	done(t, "no way, and too great", h, comes(9, 1, 2), 99)
	h.L.Trust(1, 2, 1, 2)
	done(t, "no way of what is bought", h, comes(9, 1, 3), 0, fill(2, 3, 9))
	h.L.Trust(2, 1, 2, 99)
	done(t, "the first", h, comes(9, 1, 3), 99, fill(1, 2, 2), fill(2, 2, 6))
	h.L.Trust(5, 1, 2, 1)
	h.L.Trust(1, 5, 1, 9)
	done(t, "too little of what is bought", h, comes(8, 1, 3), 0, fill(1, 2, 2), fill(2, 2, 6))
	h.L.Trust(5, 1, 2, 3)
	done(t, "one of the third", h, comes(10, 1, 3), 0, fill(1, 2, 2), fill(3, 1, 2), fill(2, 2, 6))
	h.L.Trust(5, 1, 2, 4)
	h = done(t, "two of the third", h, comes(6, 1, 3), 0, fill(1, 2, 2), fill(3, 2, 4))
	// What one has used up the next one passes over.
	h = done(t, "used up", h, comes(3, 1, 3), 0, fill(2, 1, 3))
	h.L.Trust(1, 2, 1, 3)
	h = done(t, "more of the first", h, comes(1, 1, 3), 0, fill(1, 1, 1))
	h.L.Trust(5, 1, 2, 8)
	h = done(t, "more of the third", h, comes(7, 1, 3), 0, fill(3, 2, 4), fill(2, 1, 3))
	h = done(t, "at the end", h, comes(99, 1, 3), 99, fill(2, 7, 21))
	stock{all()[:5], sorted([]api.Line{line(1, 1, 2, 3, 3), line(1, 1, 4, 9, 9), line(1, 1, 5, 9, 4), line(2, 2, 1, 99, 3), line(2, 4, 1, 99, 27), line(2, 5, 1, 8, 8)}), []api.Offer{offer(1, 2, 1, 1, 1)}, 99}.with(comes(0, 1, 3), 78).holds(t, "at the end", h)
}

// P12.1, P12.2: as many better ones as a book may have are passed over.
func TestPassedOverByMany(t *testing.T) {
	var offers []api.Offer
	for i := range uint64(api.MaxOffers) {
		offers = append(offers, offer(i+1, []api.Party{4, 5}[i%2], 9, int64(i)+1, 1))
	}
	offers[31].Owner = 2
	h := stocked(all()[:5], []api.Line{line(1, 1, 2, 9, 0), line(2, 2, 1, 999, 0), line(2, 4, 1, 999, 0)}, offers...).house(t)
	refused(t, "none", h, comes(128, 1, 31), api.ErrFull)
	after := done(t, "the last one", h, comes(128, 1, 32), 0, fill(32, 4, 128))
	refused(t, "the last one", after, comes(31, 1, 32), api.ErrFull)
	done(t, "the last one", after, comes(32, 1, 32), 0, fill(32, 1, 32))
	done(t, "more than it has", h, comes(289, 1, 32), 99, fill(32, 9, 288))
	h.L.Trust(1, 4, 1, 2)
	done(t, "better ones", h, comes(34, 1, 32), 0, fill(1, 2, 2), fill(32, 1, 32))
}

// P12.1, P12.2: an offer of its own owner's is passed over; one whose owner is no party of the ledger, too.
func TestOwn(t *testing.T) {
	lines := []api.Line{line(1, 1, 2, 99, 0), line(1, 3, 1, 99, 0), line(2, 1, 2, 99, 9), line(2, 2, 1, 99, 0), line(2, 3, 1, 99, 0)}
	offers := []api.Offer{offer(1, 1, 9, 1, 9), offer(2, 1, 9, 1, 1), offer(3, 9, 9, 1, 1), offer(4, 2, 5, 2, 1), offer(5, 1, 9, 3, 1)}
	h := stocked(all()[:3], lines, offers...).house(t)
	done(t, "own", h, comes(10, 1, 3), 0, fill(4, 5, 10))
	after := done(t, "own", h, comes(13, 1, 3), 99, fill(4, 5, 10))
	after = done(t, "nothing but own", after, comes(7, 1, 3), 100)
	stock{all()[:3], sorted([]api.Line{line(1, 1, 2, 99, 5), line(1, 3, 1, 99, 0), line(2, 1, 2, 99, 0), line(2, 2, 1, 99, 1), line(2, 3, 1, 99, 0)}), []api.Offer{offers[0], offers[1], offers[2], offers[4]}, 99}.with(comes(0, 1, 3), 3).with(comes(0, 1, 3), 7).holds(t, "own", after)
	// Somebody else's offer comes: then they are not its owner's.
	o := comes(7, 1, 3)
	o.Owner = 3
	done(t, "3's", h, o, 99)
	h.L.Trust(1, 3, 2, 9)
	done(t, "3's", h, o, 0, fills.Fill{Seq: 1, Taker: 3, To: 3, Got: 9, Given: 1}, fills.Fill{Seq: 2, Taker: 3, To: 3, Got: 6, Given: 6})
}

// P12.1: amounts of 1 and of MaxAmount.
func TestAmounts(t *testing.T) {
	for i, c := range []struct {
		num, den         int64 // of what stands
		stands, comes    int64
		got, given, left int64
	}{
		{1, 1, 1, 1, 1, 1, 0}, {1, 1, amount, 1, 1, 1, 0}, {1, 1, 1, amount, 1, 1, amount - 1}, {1, 1, amount, amount, amount, amount, 0}, {1, 1, amount - 1, amount, amount - 1, amount - 1, 1}, {1, 1, amount, amount - 1, amount - 1, amount - 1, 0},
		{1, 9, 1, 1, 1, 1, 0}, {1, 9, 8, 1, 8, 1, 0}, {1, 9, 9, 1, 9, 1, 0}, {1, 9, amount, 1, 9, 1, 0}, {1, 9, 10, 2, 10, 2, 0}, {1, 9, 10, 3, 10, 2, 1},
		{1, term, amount, 1, amount, 1, 0}, {1, term, amount, 2, amount, 1, 1}, {1, term, amount, amount, amount, 1, amount - 1}, {1, term, 1, amount, 1, 1, amount - 1},
		{term, 1, 1, amount, 1, amount, 0}, {term, 1, amount, amount, 1, amount, 0}, {term - 1, 1, amount, amount, 1, amount - 1, 1}, {term - 1, 1, amount, amount - 1, 1, amount - 1, 0},
		{term, term - 1, amount, amount, amount - 1, amount, 0}, {term, term - 1, amount - 1, amount, amount - 1, amount, 0}, {term, term - 1, amount, 2, 1, 2, 0}, {term, term - 1, amount, amount - 1, amount - 2, amount - 1, 0},
		{term - 1, term, amount, amount, amount, amount - 1, 1}, {term - 1, term, amount, amount - 1, amount, amount - 1, 0}, {term - 1, term, amount, 1, 1, 1, 0}, {term - 1, term, amount, amount - 2, amount - 2, amount - 2, 0},
		{1, 2, amount, amount, amount, amount / 2, amount / 2}, {1, 2, amount, amount / 2, amount, amount / 2, 0}, {2, 1, amount, amount, amount / 2, amount, 0}, {2, 1, amount, amount - 1, amount/2 - 1, amount - 2, 1}, {3, 2, amount, amount, 733007751850, amount - 1, 1},
	} {
		what := fmt.Sprint(i)
		h := stocked(all()[:5], wide(), offer(7, 2, c.stands, c.num, c.den)).house(t)
		number, o := uint64(0), comes(c.comes, c.den, c.num)
		if c.left > 0 {
			number = 99
		}
		after := done(t, what, h, o, number, fill(7, c.got, c.given))
		lines := wide()
		lines[0].Debt, lines[3].Debt = c.got, c.given
		want := stocked(all()[:5], lines)
		if c.stands > c.got {
			want.offers = []api.Offer{offer(7, 2, c.stands-c.got, c.num, c.den)}
		}
		want.with(o, c.left).holds(t, what, after)
	}
	// Too little for one.
	for i, c := range []struct{ num, den, comes int64 }{{2, 1, 1}, {3, 2, 1}, {term, term - 1, 1}, {term, 1, 1}, {term, 1, amount - 1}, {term - 1, 1, amount - 2}} {
		what := fmt.Sprint("too little ", i)
		was := stocked(all()[:5], wide(), offer(7, 2, amount, c.num, c.den))
		o := comes(c.comes, c.den, c.num)
		was.with(o, c.comes).holds(t, what, done(t, what, was.house(t), o, 99))
	}
	// Of several, together.
	h := stocked(all()[:5], wide(), offer(7, 2, 1, 1, 1), offer(8, 4, amount-2, 1, 1), offer(9, 5, amount, 1, 1)).house(t)
	done(t, "several", h, comes(amount, 1, 1), 0, fill(7, 1, 1), fill(8, amount-2, amount-2), fill(9, 1, 1))
}

// P12.1: no fill is bounded by MaxAmount alone, however much goes: one offer has one fill.
func TestMoreGoes(t *testing.T) {
	lines := append(wide(), line(1, 2, 1, amount, amount), line(2, 1, 2, amount, amount))
	h := stocked(all()[:5], lines, offer(7, 2, amount, term, 1)).house(t)
	done(t, "dear", h, comes(amount, 1, term), 0, fill(7, 1, amount))
	h = stocked(all()[:5], lines, offer(7, 2, amount, 1, 1), offer(8, 2, amount, 1, 1)).house(t)
	done(t, "one for one", h, comes(amount, 1, 1), 0, fill(7, amount, amount))
	h = stocked(all()[:5], lines, offer(7, 2, amount, 1, term), offer(8, 2, amount, 1, term), offer(9, 2, amount, 1, term)).house(t)
	done(t, "cheap", h, comes(amount, 1, 1), 99, fill(7, amount, 1), fill(8, amount, 1))
}

// P12.1, P12.2: all offers that a book may have, one fill each: no more come, so MaxFills are never reached.
func TestAllOffers(t *testing.T) {
	var offers []api.Offer
	var want []fills.Fill
	for i := range int64(api.MaxOffers) {
		offers = append(offers, offer(uint64(i+1), []api.Party{2, 4, 5}[i%3], 2, api.MaxOffers-i, 1))
		want = append(want, fill(uint64(api.MaxOffers-i), 2, 2*(i+1)))
	}
	h := stocked(all()[:5], wide(), offers...).house(t)
	after := done(t, "all", h, comes(1056, 1, 32), 0, want...)
	if list := after.B.All(); len(list) != 0 || after.B.Next() != 99 {
		t.Errorf("offers %v are left, the next number is %d", list, after.B.Next())
	}
	after = done(t, "one more", h, comes(1057, 1, 32), 99, want...)
	if list := after.B.All(); len(list) != 1 || after.B.Next() != 100 {
		t.Errorf("offers %v are left, the next number is %d", list, after.B.Next())
	}
	done(t, "as much as may be", h, comes(amount, 1, 32), 99, want...)
	done(t, "the greatest rate", h, comes(amount, 1, term), 99, want...)
	done(t, "all but the last", h, comes(amount, 1, 31), 99, want[:31]...)
	// Each by one alone.
	for i := range offers {
		offers[i].Left, offers[i].Rate = 1, api.Rat{Num: 1, Den: 1}
		want[i] = fill(uint64(i+1), 1, 1)
	}
	h = stocked(all()[:5], wide(), offers...).house(t)
	for n := range int64(api.MaxOffers) {
		done(t, "ones", h, comes(n+1, 1, 1), 0, want[:n+1]...)
	}
	done(t, "ones", h, comes(33, 1, 1), 99, want...)
}

// P12.1: the number of what is placed is the book's next one; of nothing it is 0, and the next one stays.
func TestNumbers(t *testing.T) {
	for _, next := range []uint64{8, 9, 1 << 32, 1 << 63, last - 2} {
		what := fmt.Sprintf("next %d", next)
		was := stock{all()[:5], sorted(wide()), []api.Offer{offer(7, 2, 8, 1, 1)}, next}
		h := was.house(t)
		was.with(comes(5, 2, 1), 5).holds(t, what, done(t, what, h, comes(5, 2, 1), next))
		for _, n := range []int64{5, 8} {
			if got := done(t, what, h, comes(n, 1, 1), 0, fill(7, n, n)).B.Next(); got != next {
				t.Errorf("%s: then %d", what, got)
			}
		}
		after := done(t, what, h, comes(9, 1, 1), next, fill(7, 8, 8))
		after = done(t, what, after, comes(3, 1, 1), next+1)
		if got := after.B.Next(); got != next+2 {
			t.Errorf("%s: then %d", what, got)
		}
		if list := after.B.All(); len(list) != 2 || list[0].Seq != next || list[1].Seq != next+1 {
			t.Errorf("%s: %v", what, list)
		}
	}
}

// P12.1: its own number is let go, such as one that stands, or that may not be; with an error, too.
func TestSeq(t *testing.T) {
	h := stocked(all()[:5], wide(), offer(1, 2, 8, 1, 1), offer(7, 4, 8, 3, 2)).house(t)
	for _, seq := range []uint64{0, 1, 2, 7, 8, 98, 99, 100, 1 << 63, last - 1, last} {
		what := fmt.Sprintf("the number %d", seq)
		for _, c := range []struct {
			o      api.Offer
			number uint64
			fills  []fills.Fill
		}{{comes(3, 1, 1), 0, []fills.Fill{fill(1, 3, 3)}}, {comes(9, 1, 1), 99, []fills.Fill{fill(1, 8, 8)}}, {comes(9, 2, 1), 99, nil}, {comes(11, 1, 2), 0, []fills.Fill{fill(1, 8, 8), fill(7, 2, 3)}}} {
			c.o.Seq = seq
			done(t, what, h, c.o, c.number, c.fills...)
		}
		o := comes(0, 1, 1)
		o.Seq = seq
		refused(t, what, h, o, api.ErrArg)
		o = comes(1, 1, 1)
		o.Seq, o.Owner = seq, 6
		refused(t, what, h, o, api.ErrNone)
	}
}

// filled is a book's worth of offers that stand beside one that comes, but of so few.
func filled(offers ...api.Offer) []api.Offer {
	for seq := uint64(40); len(offers) < api.MaxOffers; seq++ {
		offers = append(offers, api.Offer{Seq: seq, Owner: 9, Sell: 5, Buy: 6, Left: 1, Rate: api.Rat{Num: 1, Den: 1}})
	}
	return offers
}

// P12.1: a book that is full has no room for what is left; the fills that were done till then are not told. Where nothing is left, none is needed, and what is filled wholly leaves some.
func TestFull(t *testing.T) {
	was := stocked(all()[:5], wide(), filled(offer(1, 2, 8, 1, 1), offer(2, 4, 8, 2, 1), offer(3, 3, 8, 3, 2))...)
	h := was.house(t)
	refused(t, "none", h, comes(7, 2, 1), api.ErrFull)
	refused(t, "other ones", h, api.Offer{Owner: 1, Sell: 3, Buy: 4, Left: 1, Rate: api.Rat{Num: 1, Den: 1}}, api.ErrFull)
	done(t, "some", h, comes(7, 1, 1), 0, fill(1, 7, 7))
	done(t, "all", h, comes(8, 1, 1), 0, fill(1, 8, 8))
	after := done(t, "one more", h, comes(9, 1, 1), 99, fill(1, 8, 8))
	if n := len(after.B.All()); n != api.MaxOffers {
		t.Errorf("%d offers, not as many as may be", n)
	}
	refused(t, "again", after, comes(1, 1, 1), api.ErrFull)
	done(t, "one more, too little", h, comes(9, 1, 2), 99, fill(1, 8, 8))
	done(t, "one of the next", h, comes(10, 1, 2), 0, fill(1, 8, 8), fill(2, 1, 2))
	// Fills that leave both: as no more goes, or what is left is too little.
	lines := wide()
	lines[0].Limit = 5
	was.lines = sorted(lines)
	h = was.house(t)
	refused(t, "no more goes", h, comes(6, 1, 1), api.ErrFull)
	refused(t, "no more goes", h, comes(amount, 1, 1), api.ErrFull)
	done(t, "no more is left", h, comes(5, 1, 1), 0, fill(1, 5, 5))
	refused(t, "too little", h, comes(8, 1, 2), api.ErrFull)
	done(t, "just enough", h, comes(7, 1, 2), 0, fill(1, 5, 5), fill(2, 1, 2))
	done(t, "more than all", h, comes(22, 1, 2), 99, fill(1, 5, 5), fill(2, 8, 16))
	// One less: there is room for one.
	h.B.Cancel(9, 45)
	after = done(t, "room", h, comes(6, 1, 1), 99, fill(1, 5, 5))
	refused(t, "room no more", after, comes(6, 1, 1), api.ErrFull)
}

// P12.1: a book that has no number left takes nothing either.
func TestNoNumber(t *testing.T) {
	was := stock{all()[:5], sorted(wide()), []api.Offer{offer(7, 2, 8, 1, 1)}, last}
	h := was.house(t)
	refused(t, "none", h, comes(1, 2, 1), api.ErrFull)
	refused(t, "one more", h, comes(9, 1, 1), api.ErrFull)
	done(t, "some", h, comes(7, 1, 1), 0, fill(7, 7, 7))
	done(t, "all", h, comes(8, 1, 1), 0, fill(7, 8, 8))
	was.next--
	h = done(t, "the last one", was.house(t), comes(9, 1, 1), last-1, fill(7, 8, 8))
	refused(t, "behind the last one", h, comes(1, 1, 1), api.ErrFull)
}

// R1, R4, R5: the house that is answered, the one that is handed in, and another answer share nothing.
func TestSharesNothing(t *testing.T) {
	was := stocked(all()[:4], []api.Line{line(1, 1, 2, 9, 0), line(2, 2, 1, 99, 0)}, offer(1, 2, 4, 1, 1), offer(2, 2, 4, 2, 1))
	h := was.house(t)
	want := []fills.Fill{fill(1, 4, 4), fill(2, 1, 2)}
	o := comes(7, 1, 2)
	after, list, seq, e := places.Place(h, o)
	again, other, _, _ := places.Place(h, o)
	if e != api.OK || seq != 99 || !slices.Equal(list, want) || !slices.Equal(other, want) {
		t.Fatalf("%v, %v, %d, %v", list, other, seq, e)
	}
	is := stockOf(after)
	clear(list)
	list = append(list, fills.Fill{Seq: 9})
	if !slices.Equal(other, want) {
		t.Errorf("the other fills are %v", other)
	}
	// What is done with one of the three is not seen in the others.
	h.L.Push(2, 1, 1, 1)
	h.L.Open(9)
	h.B.Take(2, 2)
	h.B.Place(3, 1, 2, 1, api.Rat{Num: 1, Den: 1})
	is.holds(t, "behind what the first one does", after)
	is.holds(t, "behind what the first one does, again", again)
	moved := stockOf(h)
	after.L.Push(1, 2, 1, 5)
	after.L.Trust(3, 2, 1, 7)
	after.L.Open(8)
	after.B.Cancel(2, 2)
	after.B.Cancel(1, 99)
	after.B.Place(1, 1, 2, 1, api.Rat{Num: 1, Den: 1})
	moved.holds(t, "behind what the answered one does", h)
	is.holds(t, "behind what the answered one does, again", again)
	// One that is only placed, and one that is only filled, are answered in a house of their own, too.
	for _, o := range []api.Offer{comes(7, 2, 1), comes(1, 1, 2)} {
		h := was.house(t)
		after, _, _, _ := places.Place(h, o)
		after.L.Open(9)
		after.L.Push(2, 1, 1, 1)
		after.B.Take(2, 1)
		was.holds(t, "behind what the answered one does", h)
	}
}

// changed is an offer that comes, with a part that is another one.
func changed(change func(o *api.Offer)) api.Offer {
	o := comes(3, 1, 1)
	change(&o)
	return o
}

// P12.1: each part of an offer that may be wrong, at its bounds, with nothing else wrong.
func TestWrong(t *testing.T) {
	h := stocked(all()[:4], wide()[:2], offer(7, 2, 8, 1, 1)).house(t)
	for p := range 256 {
		o := changed(func(o *api.Offer) { o.Owner = api.Party(p) })
		switch {
		case p < 1 || p > 16:
			refused(t, "owner", h, o, api.ErrArg)
		case p > 4:
			refused(t, "owner", h, o, api.ErrNone)
		default:
			done(t, "owner", h, o, 99)
		}
	}
	for c := range 256 {
		sell, buy := changed(func(o *api.Offer) { o.Sell = api.Currency(c) }), changed(func(o *api.Offer) { o.Buy = api.Currency(c) })
		same := changed(func(o *api.Offer) { o.Sell, o.Buy = api.Currency(c), api.Currency(c) })
		refused(t, "the same", h, same, api.ErrArg)
		if c < 1 || c > 8 {
			refused(t, "of another one", h, sell, api.ErrArg)
			refused(t, "for another one", h, buy, api.ErrArg)
			continue
		}
		if c != 1 {
			done(t, "of another one", h, sell, 99)
		}
		if c != 2 {
			done(t, "for another one", h, buy, 99)
		}
	}
	for _, n := range []int64{0, -1, -3, -amount, least, amount + 1, 2 * amount, most} {
		refused(t, "left", h, comes(n, 1, 1), api.ErrArg)
	}
	for _, r := range []api.Rat{
		{}, {Num: 0, Den: 1}, {Num: 1, Den: 0}, {Num: -1, Den: 1}, {Num: 1, Den: -1}, {Num: -1, Den: -1}, {Num: 2, Den: 2}, {Num: 6, Den: 4}, {Num: 0, Den: 0}, {Num: 3, Den: 9}, {Num: least, Den: 1}, {Num: 1, Den: least}, {Num: least, Den: least},
		{Num: term + 1, Den: 1}, {Num: 1, Den: term + 1}, {Num: term + 1, Den: term}, {Num: term, Den: term + 1}, {Num: term, Den: term}, {Num: term, Den: 2}, {Num: 2, Den: term}, {Num: most, Den: 1}, {Num: 1, Den: most}, {Num: most, Den: most - 1},
	} {
		refused(t, "rate", h, changed(func(o *api.Offer) { o.Rate = r }), api.ErrArg)
	}
	// With nothing wrong they go.
	for _, n := range []int64{1, 2, amount - 1, amount} {
		done(t, "left", h, comes(n, 2, 1), 99)
	}
	for _, r := range []api.Rat{{Num: term, Den: 1}, {Num: term, Den: term - 1}, {Num: 3, Den: 2}} {
		done(t, "rate", h, changed(func(o *api.Offer) { o.Rate = r }), 99)
	}
	for _, r := range []api.Rat{{Num: 1, Den: term}, {Num: term - 1, Den: term}, {Num: 2, Den: 3}, {Num: 1, Den: 1}} {
		done(t, "rate", stocked(all()[:4], wide()[:1]).house(t), changed(func(o *api.Offer) { o.Rate = r }), 99)
	}
}

// P12.1, R2: of several errors the first that the promise names is told.
func TestFirstError(t *testing.T) {
	h := stocked(all()[:4], wide()[:1], filled(offer(1, 2, 8, 1, 1))...).house(t)
	for i, c := range []struct {
		o api.Offer
		e api.Errno
	}{
		// What may not be, ahead of who is no party of the ledger, and of a book that is full.
		{changed(func(o *api.Offer) { o.Owner, o.Sell = 5, 1 }), api.ErrArg}, {changed(func(o *api.Offer) { o.Owner, o.Sell = 5, 0 }), api.ErrArg}, {changed(func(o *api.Offer) { o.Owner, o.Buy = 5, 9 }), api.ErrArg}, {changed(func(o *api.Offer) { o.Owner, o.Left = 5, 0 }), api.ErrArg},
		{changed(func(o *api.Offer) { o.Owner, o.Left = 16, amount+1 }), api.ErrArg}, {changed(func(o *api.Offer) { o.Owner, o.Rate.Num = 5, 0 }), api.ErrArg}, {changed(func(o *api.Offer) { o.Owner, o.Rate.Den = 5, term+1 }), api.ErrArg}, {changed(func(o *api.Offer) { o.Owner, o.Rate = 5, api.Rat{Num: 2, Den: 2} }), api.ErrArg},
		{changed(func(o *api.Offer) { o.Owner = 17 }), api.ErrArg}, {changed(func(o *api.Offer) { o.Owner = 0 }), api.ErrArg}, {comes(0, 2, 1), api.ErrArg}, {comes(1, 2, 0), api.ErrArg}, {api.Offer{}, api.ErrArg}, {api.Offer{Seq: 1}, api.ErrArg},
		// That, ahead of a book that is full.
		{changed(func(o *api.Offer) { o.Owner = 5 }), api.ErrNone}, {changed(func(o *api.Offer) { o.Owner = 16 }), api.ErrNone}, {changed(func(o *api.Offer) { o.Owner, o.Sell, o.Buy = 9, 6, 5 }), api.ErrNone},
		{comes(3, 1, 1), api.ErrFull}, {comes(amount, 1, term), api.ErrFull},
	} {
		refused(t, fmt.Sprint(i), h, c.o, c.e)
	}
	h.L.Trust(2, 1, 2, 3)
	done(t, "well", h, comes(3, 1, 1), 0, fill(1, 3, 3))
	refused(t, "well", h, comes(4, 1, 1), api.ErrFull)
}

// R1, R3, P12.1: without a ledger, or a book, or with one that no call made, ErrNil comes ahead of all else; those that were made, and have nothing, are there.
func TestNothing(t *testing.T) {
	tried := new(ledgers.Ledger)
	tried.Open(1)
	placed := new(books.Book)
	placed.Place(1, 1, 2, 9, api.Rat{Num: 1, Den: 1})
	full := stocked(all()[:3], wide()[:1], offer(7, 2, 8, 1, 1)).house(t)
	full.L.Trust(2, 1, 2, 9)
	noLedgers, noBooks := []*ledgers.Ledger{nil, {}, tried}, []*books.Book{nil, {}, placed}
	var houses []fills.House
	for i := range 3 {
		for j := range 3 {
			houses = append(houses, fills.House{L: noLedgers[i], B: noBooks[j]})
		}
		houses = append(houses, fills.House{L: full.L, B: noBooks[i]}, fills.House{L: noLedgers[i], B: full.B})
		houses = append(houses, fills.House{L: ledgers.New(), B: noBooks[i]}, fills.House{L: noLedgers[i], B: books.New()})
	}
	for i, h := range houses {
		for _, o := range []api.Offer{
			comes(1, 1, 1), comes(0, 1, 1), comes(amount+1, 1, 1), comes(9, 2, 1), comes(1, 2, 2), comes(least, most, most), {}, {Seq: last}, changed(func(o *api.Offer) { o.Owner = 0 }), changed(func(o *api.Offer) { o.Owner = 5 }), changed(func(o *api.Offer) { o.Owner = 255 }),
			changed(func(o *api.Offer) { o.Sell = 0 }), changed(func(o *api.Offer) { o.Buy = 255 }), changed(func(o *api.Offer) { o.Sell = o.Buy }),
		} {
			refused(t, fmt.Sprint(i), h, o, api.ErrNil)
		}
	}
	for i, b := range []*books.Book{books.New(), full.B} {
		h := fills.House{L: ledgers.New(), B: b}
		refused(t, fmt.Sprint("there ", i), h, comes(0, 1, 1), api.ErrArg)
		refused(t, fmt.Sprint("there ", i), h, comes(1, 1, 1), api.ErrNone)
	}
	h := fills.House{L: full.L, B: books.New()}
	refused(t, "no offers", h, comes(0, 1, 1), api.ErrArg)
	h = done(t, "no offers", h, comes(1, 1, 1), 1)
	done(t, "no offers", h, comes(2, 1, 1), 2)
	done(t, "full", full, comes(8, 1, 1), 0, fill(7, 8, 8))
}
