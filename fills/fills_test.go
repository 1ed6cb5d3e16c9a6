package fills_test

import (
	"cmp"
	"fmt"
	"math"
	"slices"
	"testing"

	"countinghouse/api"
	"countinghouse/books"
	"countinghouse/fills"
	"countinghouse/ledgers"
)

const (
	amount = api.MaxAmount
	term   = api.MaxTerm
	most   = math.MaxInt64
	least  = math.MinInt64
)

// line as the document's lists have it: of a currency, creditor, debtor, limit, debt.
func line(c api.Currency, creditor, debtor api.Party, limit, debt int64) api.Line {
	return api.Line{Creditor: creditor, Debtor: debtor, Currency: c, Limit: limit, Debt: debt}
}

// offer of the number 7: its owner sells so much of 1 for 2, at a rate.
func offer(owner api.Party, left, num, den int64) api.Offer {
	return api.Offer{Seq: 7, Owner: owner, Sell: 1, Buy: 2, Left: left, Rate: api.Rat{Num: num, Den: den}}
}

// turned sells what the other one buys.
func turned(o api.Offer) api.Offer {
	o.Sell, o.Buy = o.Buy, o.Sell
	return o
}

// all parties, rising.
func all() (l []api.Party) {
	for p := range api.Party(16) {
		l = append(l, p+1)
	}
	return l
}

// sorted as a ledger tells them: by currency, of one by creditor, of one by debtor.
func sorted(lines []api.Line) []api.Line {
	lines = slices.Clone(lines)
	slices.SortFunc(lines, func(a, b api.Line) int {
		return cmp.Or(cmp.Compare(a.Currency, b.Currency), cmp.Compare(a.Creditor, b.Creditor), cmp.Compare(a.Debtor, b.Debtor))
	})
	return lines
}

// A stock is all that a house has.
type stock struct {
	parties []api.Party
	lines   []api.Line
	offers  []api.Offer
	next    uint64
}

// stocked is a stock that is a house's own: with rising offers, and a next number behind them.
func stocked(parties []api.Party, lines []api.Line, offers ...api.Offer) stock {
	return stock{parties, sorted(lines), offers, 12}
}

// house of a stock.
func (s stock) house(t *testing.T) fills.House {
	t.Helper()
	l, e := ledgers.Of(s.parties, s.lines)
	if e != api.OK || l == nil {
		t.Fatalf("ledgers.Of(%v, %v): %v", s.parties, s.lines, e)
	}
	b, e := books.Of(s.offers, s.next)
	if e != api.OK || b == nil {
		t.Fatalf("books.Of(%v, %d): %v", s.offers, s.next, e)
	}
	return fills.House{L: l, B: b}
}

// stockOf tells a house's, such as has nothing.
func stockOf(h fills.House) stock {
	return stock{h.L.Parties(), h.L.Lines(), h.B.All(), h.B.Next()}
}

// holds asks whether a house has just that.
func (s stock) holds(t *testing.T, what string, h fills.House) {
	t.Helper()
	is := stockOf(h)
	if !slices.Equal(is.parties, s.parties) || is.next != s.next {
		t.Fatalf("%s: parties %v, next number %d; not %v, %d", what, is.parties, is.next, s.parties, s.next)
	}
	if !slices.Equal(is.lines, s.lines) {
		t.Fatalf("%s: lines %v, not %v", what, is.lines, s.lines)
	}
	if !slices.Equal(is.offers, s.offers) {
		t.Fatalf("%s: offers %v, not %v", what, is.offers, s.offers)
	}
}

// may asks how much may be filled, and whether the house stays.
func may(t *testing.T, what string, h fills.House, seq uint64, taker, to api.Party, want, most, n int64) {
	t.Helper()
	was := stockOf(h)
	what = fmt.Sprintf("%s: May(%d, %d, %d, %d, %d)", what, seq, taker, to, want, most)
	if got := h.May(seq, taker, to, want, most); got != n {
		t.Fatalf("%s: %d, not %d", what, got, n)
	}
	was.holds(t, what, h)
}

// refused asks for a fill that may not be, and whether the house stays.
func refused(t *testing.T, what string, h fills.House, seq uint64, taker, to api.Party, n int64, e api.Errno) {
	t.Helper()
	was := stockOf(h)
	what = fmt.Sprintf("%s: Do(%d, %d, %d, %d)", what, seq, taker, to, n)
	if f, got := h.Do(seq, taker, to, n); f != (fills.Fill{}) || got != e {
		t.Fatalf("%s: %v, %v; not %v", what, f, got, e)
	}
	was.holds(t, what, h)
}

// done asks for a fill that may be: what it says.
func done(t *testing.T, what string, h fills.House, seq uint64, taker, to api.Party, n, given int64) {
	t.Helper()
	what = fmt.Sprintf("%s: Do(%d, %d, %d, %d)", what, seq, taker, to, n)
	want := fills.Fill{Seq: seq, Taker: taker, To: to, Got: n, Given: given}
	if f, e := h.Do(seq, taker, to, n); f != want || e != api.OK {
		t.Fatalf("%s: %v, %v; not %v", what, f, e, want)
	}
}

// The document's examples, one behind the other.
func TestExamples(t *testing.T) {
	h := fills.House{L: ledgers.New(), B: books.New()}
	for _, p := range all()[:3] {
		h.L.Open(p)
	}
	h.L.Trust(3, 2, 1, 9)
	h.L.Trust(2, 1, 2, 7)
	h.B.Place(2, 1, 2, 5, api.Rat{Num: 3, Den: 2})
	may(t, "example", h, 1, 1, 3, 9, 100, 4)
	may(t, "example", h, 1, 1, 3, 9, 5, 3)
	may(t, "example", h, 1, 2, 3, 9, 9, 0)
	may(t, "example", h, 7, 1, 3, 9, 9, 0)
	refused(t, "example", h, 1, 1, 3, 5, api.ErrArg)
	done(t, "example", h, 1, 1, 3, 3, 5)
	stock{
		all()[:3],
		[]api.Line{line(1, 3, 2, 9, 3), line(2, 2, 1, 7, 5)},
		[]api.Offer{{Seq: 1, Owner: 2, Sell: 1, Buy: 2, Left: 2, Rate: api.Rat{Num: 3, Den: 2}}},
		2,
	}.holds(t, "example", h)
}

// P10.1: each bound by itself as the least one, at its edges: of 1 goods go from 2 to 3, of 2 money from 1 to 2.
func TestEachBound(t *testing.T) {
	for i, c := range []struct {
		goods, left, money, num, den int64
		want, most, n                int64
	}{
		// What is wanted.
		{9, 9, 99, 3, 2, 1, 99, 1}, {9, 9, 99, 3, 2, 8, 99, 8}, {9, 9, 99, 3, 2, 9, 99, 9},
		{amount, amount, amount, 1, 1, amount - 1, most, amount - 1},
		// What is left of the offer.
		{9, 1, 99, 3, 2, 9, 99, 1}, {9, 8, 99, 3, 2, 9, 99, 8}, {9, 8, 99, 3, 2, most, most, 8},
		{amount, amount - 1, amount, 1, 1, most, most, amount - 1},
		// How much goes of what is sold.
		{0, 9, 99, 3, 2, 9, 99, 0}, {1, 9, 99, 3, 2, 9, 99, 1}, {8, 9, 99, 3, 2, 9, 99, 8}, {8, 9, 99, 3, 2, most, most, 8},
		{amount - 1, amount, amount, 1, 1, most, most, amount - 1},
		// What may be given: too little for one, just enough, one more, and enough for the next one.
		{9, 9, 99, 3, 2, 9, 1, 0}, {9, 9, 99, 3, 2, 9, 2, 1}, {9, 9, 99, 3, 2, 9, 3, 2}, {9, 9, 99, 3, 2, 9, 4, 2}, {9, 9, 99, 3, 2, 9, 5, 3},
		{9, 9, 99, 3, 2, 9, 13, 8}, {9, 9, 99, 3, 2, 9, 14, 9}, {9, 9, 99, 7, 1, 9, 6, 0}, {9, 9, 99, 7, 1, 9, 7, 1}, {9, 9, 99, 7, 1, 9, 27, 3},
		{99, 99, 99, 1, 7, 99, 1, 7}, {99, 99, 99, 1, 7, 99, 2, 14},
		{amount, amount, amount, 1, 1, most, amount - 1, amount - 1}, {amount, amount, amount, term, 1, most, amount - 1, 0}, {amount, amount, amount, term, 1, most, amount, 1},
		// How much goes of what is bought.
		{9, 9, 0, 3, 2, 9, 99, 0}, {9, 9, 1, 3, 2, 9, 99, 0}, {9, 9, 2, 3, 2, 9, 99, 1}, {9, 9, 3, 3, 2, 9, 99, 2}, {9, 9, 4, 3, 2, 9, 99, 2},
		{9, 9, 13, 3, 2, 9, 99, 8}, {9, 9, 14, 3, 2, 9, 99, 9}, {9, 9, 6, 7, 1, 9, most, 0}, {99, 99, 3, 1, 7, 99, most, 21},
		{amount, amount, amount - 1, 1, 1, most, most, amount - 1}, {amount, amount, amount - 1, term, 1, most, most, 0},
		// All of them at once.
		{4, 4, 6, 3, 2, 4, 6, 4}, {1, 1, 1, 1, 1, 1, 1, 1}, {amount, amount, amount, 1, 1, amount, amount, amount}, {amount, amount, amount, 1, 1, most, most, amount},
		{amount, amount, 1, 1, term, amount, 1, amount}, {amount, amount, 1, 1, term, most, most, amount}, {1, 1, amount, term, 1, 1, amount, 1},
		{amount, amount, amount, term, term - 1, most, most, amount - 1}, {amount, amount, amount, term - 1, term, most, most, amount},
		// Something below 1: that which is wanted, or may be given.
		{9, 9, 99, 3, 2, 0, 99, 0}, {9, 9, 99, 3, 2, -1, 99, 0}, {9, 9, 99, 3, 2, least, 99, 0}, {9, 9, 99, 1, 9, 9, 0, 0}, {9, 9, 99, 1, 9, 9, -1, 0}, {9, 9, 99, 1, 9, 9, least, 0},
		{9, 9, 99, 3, 2, 0, 0, 0}, {9, 9, 99, 3, 2, least, least, 0}, {9, 9, 99, 3, 2, least, most, 0}, {9, 9, 99, 3, 2, most, least, 0},
	} {
		var lines []api.Line
		if c.goods > 0 {
			lines = append(lines, line(1, 3, 2, c.goods, 0))
		}
		if c.money > 0 {
			lines = append(lines, line(2, 2, 1, c.money, 0))
		}
		what := fmt.Sprint(i)
		h := stocked(all()[:3], lines, offer(2, c.left, c.num, c.den)).house(t)
		may(t, what, h, 7, 1, 3, c.want, c.most, c.n)
		// The owner needs no way to themselves: where too little went, nothing else bounds it as much.
		if top := min(c.want, c.left); c.goods < top {
			c.n = top
		}
		may(t, what+", to the owner", h, 7, 1, 2, c.want, c.most, c.n)
	}
}

// P10.1, P10.2: MaxAmount by itself as the least one: more of both goes, and more may be given, but no more may be paid at once.
func TestMostAtOnce(t *testing.T) {
	lines := []api.Line{line(1, 3, 2, amount, 0), line(1, 2, 3, amount, amount), line(2, 2, 1, amount, 0), line(2, 1, 2, amount, amount)}
	for i, c := range []struct{ left, num, den, n, given int64 }{
		{amount, 3, 2, 733007751850, 1099511627775}, {amount, 2, 1, amount / 2, amount}, {amount, term, 1, 1, amount}, {amount, term, 3, 3, amount},
		{amount, term - 1, 1, 1, amount - 1}, {amount, term, term - 1, amount - 1, amount}, {amount, 1, 1, amount, amount},
		{amount, term - 1, term, amount, amount - 1}, {amount, 1, term, amount, 1}, {1, term, 1, 1, amount}, {2, term, 1, 1, amount},
	} {
		what := fmt.Sprint(i)
		was := stocked(all()[:4], lines, offer(2, c.left, c.num, c.den))
		for _, to := range []api.Party{2, 3} {
			h := was.house(t)
			may(t, what, h, 7, 1, to, most, most, c.n)
			may(t, what, h, 7, 1, to, c.n, c.given, c.n)
			may(t, what, h, 7, 1, to, c.n+1, most, c.n)
			may(t, what, h, 7, 1, to, most, c.given, c.n)
			may(t, what, h, 7, 1, to, most, c.given-1, fitting(c.n, c.given-1, api.Rat{Num: c.num, Den: c.den}))
			refused(t, what, h, 7, 1, to, c.n+1, api.ErrArg)
			refused(t, what, h, 7, 1, to, most, api.ErrArg)
			done(t, what, h, 7, 1, to, c.n, c.given)
			if got := h.L.Position(2, 2); got != c.given-amount {
				t.Errorf("%s: the owner stands at %d", what, got)
			}
		}
	}
}

// P10.2, P10.4: fills by hand, of all that may be filled or less: what is given, and what the house has by then; one more than may be filled is refused.
func TestDo(t *testing.T) {
	direct := []api.Line{line(1, 3, 2, 9, 0), line(2, 2, 1, 99, 0)}
	for i, c := range []struct {
		lines       []api.Line
		offer       api.Offer
		taker, to   api.Party
		may, n      int64
		given, left int64
		linesAfter  []api.Line
	}{
		// Raised, or just so; some of the offer, or what is left of it, by which it is no more.
		{direct, offer(2, 8, 3, 2), 1, 3, 8, 1, 2, 7, []api.Line{line(1, 3, 2, 9, 1), line(2, 2, 1, 99, 2)}},
		{direct, offer(2, 8, 3, 2), 1, 3, 8, 2, 3, 6, []api.Line{line(1, 3, 2, 9, 2), line(2, 2, 1, 99, 3)}},
		{direct, offer(2, 8, 3, 2), 1, 3, 8, 7, 11, 1, []api.Line{line(1, 3, 2, 9, 7), line(2, 2, 1, 99, 11)}},
		{direct, offer(2, 8, 3, 2), 1, 3, 8, 8, 12, 0, []api.Line{line(1, 3, 2, 9, 8), line(2, 2, 1, 99, 12)}},
		{direct, offer(2, 1, 3, 2), 1, 3, 1, 1, 2, 0, []api.Line{line(1, 3, 2, 9, 1), line(2, 2, 1, 99, 2)}},
		{direct, offer(2, amount, 3, 2), 1, 3, 9, 9, 14, amount - 9, []api.Line{line(1, 3, 2, 9, 9), line(2, 2, 1, 99, 14)}},
		{direct, offer(2, 8, 5, 1), 1, 3, 8, 8, 40, 0, []api.Line{line(1, 3, 2, 9, 8), line(2, 2, 1, 99, 40)}},
		{direct, offer(2, 8, 1, 5), 1, 3, 8, 5, 1, 3, []api.Line{line(1, 3, 2, 9, 5), line(2, 2, 1, 99, 1)}},
		{direct, offer(2, 8, 1, 5), 1, 3, 8, 6, 2, 2, []api.Line{line(1, 3, 2, 9, 6), line(2, 2, 1, 99, 2)}},
		{direct, offer(2, 8, 1, term), 1, 3, 8, 8, 1, 0, []api.Line{line(1, 3, 2, 9, 8), line(2, 2, 1, 99, 1)}},
		{direct, offer(2, 8, 1, 1), 1, 3, 8, 3, 3, 5, []api.Line{line(1, 3, 2, 9, 3), line(2, 2, 1, 99, 3)}},
		// As much as there may be, of all of it.
		{[]api.Line{line(1, 3, 2, amount, 0), line(2, 2, 1, amount, 0)}, offer(2, amount, 1, 1), 1, 3, amount, amount, amount, 0, []api.Line{line(1, 3, 2, amount, amount), line(2, 2, 1, amount, amount)}},
		{[]api.Line{line(1, 3, 2, amount, 0), line(2, 2, 1, amount, 0)}, offer(2, amount, term-1, term), 1, 3, amount, amount, amount - 1, 0, []api.Line{line(1, 3, 2, amount, amount), line(2, 2, 1, amount, amount-1)}},
		// The taker toward themselves.
		{[]api.Line{line(1, 1, 2, 6, 0), line(2, 2, 1, 99, 0)}, offer(2, 8, 3, 2), 1, 1, 6, 5, 8, 3, []api.Line{line(1, 1, 2, 6, 5), line(2, 2, 1, 99, 8)}},
		// Toward the owner, of whom nothing is paid, whatever goes from them, or to them.
		{[]api.Line{line(2, 2, 1, 99, 0)}, offer(2, 8, 3, 2), 1, 2, 8, 3, 5, 5, []api.Line{line(2, 2, 1, 99, 5)}},
		{direct, offer(2, 8, 3, 2), 1, 2, 8, 8, 12, 0, []api.Line{line(1, 3, 2, 9, 0), line(2, 2, 1, 99, 12)}},
		{[]api.Line{line(1, 1, 2, 5, 2), line(1, 2, 1, 5, 1), line(2, 2, 1, 9, 0)}, offer(2, 8, 1, 1), 1, 2, 8, 4, 4, 4, []api.Line{line(1, 1, 2, 5, 2), line(1, 2, 1, 5, 1), line(2, 2, 1, 9, 4)}},
		// What is owed goes back first.
		{[]api.Line{line(1, 2, 3, 9, 4), line(1, 3, 2, 9, 0), line(2, 1, 2, 9, 7), line(2, 2, 1, 9, 0)}, offer(2, 8, 2, 1), 1, 3, 8, 5, 10, 3, []api.Line{line(1, 2, 3, 9, 0), line(1, 3, 2, 9, 1), line(2, 1, 2, 9, 0), line(2, 2, 1, 9, 3)}},
		// Over others, of whom none is richer or poorer by it: such as the taker between the owner and the other one, and that one between the taker and the owner.
		{[]api.Line{line(1, 4, 2, 9, 0), line(1, 5, 4, 7, 0), line(1, 3, 5, 8, 0), line(2, 4, 1, 20, 0), line(2, 2, 4, 10, 1)}, offer(2, 8, 3, 2), 1, 3, 6, 6, 9, 2,
			[]api.Line{line(1, 3, 5, 8, 6), line(1, 4, 2, 9, 6), line(1, 5, 4, 7, 6), line(2, 2, 4, 10, 10), line(2, 4, 1, 20, 9)}},
		{[]api.Line{line(1, 1, 2, 9, 0), line(1, 3, 1, 7, 0), line(2, 3, 1, 9, 0), line(2, 2, 3, 9, 0)}, offer(2, 8, 1, 1), 1, 3, 7, 7, 7, 1, []api.Line{line(1, 1, 2, 9, 7), line(1, 3, 1, 7, 7), line(2, 2, 3, 9, 7), line(2, 3, 1, 9, 7)}},
		// Lines of the other currency, or the other way, are no way.
		{[]api.Line{line(1, 3, 2, 9, 0), line(2, 3, 2, 20, 0), line(1, 2, 1, 20, 0), line(2, 2, 1, 4, 0), line(8, 3, 2, 20, 0)}, offer(2, 8, 1, 1), 1, 3, 4, 4, 4, 4,
			[]api.Line{line(1, 2, 1, 20, 0), line(1, 3, 2, 9, 4), line(2, 2, 1, 4, 4), line(2, 3, 2, 20, 0), line(8, 3, 2, 20, 0)}},
		{[]api.Line{line(1, 2, 1, 9, 0), line(2, 3, 2, 7, 0)}, turned(offer(2, 8, 1, 1)), 1, 3, 7, 6, 6, 2, []api.Line{line(1, 2, 1, 9, 6), line(2, 3, 2, 7, 6)}},
		// The greatest parties.
		{[]api.Line{line(1, 15, 16, 9, 0), line(2, 16, 14, 9, 0)}, offer(16, 8, 1, 1), 14, 15, 8, 8, 8, 0, []api.Line{line(1, 15, 16, 9, 8), line(2, 16, 14, 9, 8)}},
	} {
		what := fmt.Sprint(i)
		ahead, behind := c.offer, c.offer
		ahead.Seq, behind.Seq = 3, 9
		h := stocked(all(), c.lines, ahead, c.offer, behind).house(t)
		may(t, what, h, 7, c.taker, c.to, most, most, c.may)
		refused(t, what, h, 7, c.taker, c.to, c.may+1, api.ErrArg)
		done(t, what, h, 7, c.taker, c.to, c.n, c.given)
		offers := []api.Offer{ahead, behind}
		if c.left > 0 {
			c.offer.Left = c.left
			offers = []api.Offer{ahead, c.offer, behind}
		}
		stocked(all(), c.linesAfter, offers...).holds(t, what, h)
	}
}

// P10.2: fills one behind the other, till nothing may be filled: because nothing is left, no way is, or too little may be given.
func TestDoAgain(t *testing.T) {
	was := stocked(all()[:3], []api.Line{line(1, 3, 2, 4, 0), line(1, 1, 2, 9, 0), line(2, 2, 1, 9, 0)}, offer(2, 6, 3, 2))
	h := was.house(t)
	done(t, "first", h, 7, 1, 3, 3, 5)
	may(t, "first", h, 7, 1, 3, most, most, 1)
	done(t, "second", h, 7, 1, 3, 1, 2)
	may(t, "no way of what is sold", h, 7, 1, 3, most, most, 0)
	refused(t, "no way of what is sold", h, 7, 1, 3, 1, api.ErrArg)
	may(t, "another way", h, 7, 1, 1, most, most, 1)
	done(t, "third", h, 7, 1, 1, 1, 2)
	may(t, "no way of what is bought", h, 7, 1, 1, most, most, 0)
	refused(t, "no way of what is bought", h, 7, 1, 1, 1, api.ErrArg)
	h.L.Trust(2, 1, 2, 11)
	done(t, "fourth", h, 7, 1, 1, 1, 2)
	may(t, "nothing left", h, 7, 1, 1, most, most, 0)
	refused(t, "nothing left", h, 7, 1, 1, 1, api.ErrArg)
	stocked(all()[:3], []api.Line{line(1, 1, 2, 9, 2), line(1, 3, 2, 4, 4), line(2, 2, 1, 11, 11)}).holds(t, "at the end", h)
	seq, e := h.B.Place(2, 1, 2, 6, api.Rat{Num: 1, Den: 1})
	if seq != 12 || e != api.OK {
		t.Errorf("placed: %d, %v", seq, e)
	}
}

// P10.1, P10.2: each thing that may be wrong, at its bounds.
func TestWrong(t *testing.T) {
	parties := []api.Party{1, 2, 3, 16}
	lines := []api.Line{line(1, 3, 2, 9, 0), line(1, 1, 2, 9, 0), line(2, 2, 1, 99, 0), line(2, 2, 3, 99, 0), line(1, 2, 16, 9, 0), line(2, 2, 16, 9, 0)}
	stranger := offer(4, 8, 3, 2) // whose owner is no party
	stranger.Seq = 8
	h := stocked(parties, lines, offer(2, 8, 3, 2), stranger).house(t)
	for i, c := range []struct {
		seq       uint64
		taker, to api.Party
		n         int64
	}{
		// No such offer.
		{0, 1, 3, 1}, {1, 1, 3, 1}, {6, 1, 3, 1}, {9, 1, 3, 1}, {12, 1, 3, 1}, {math.MaxUint64, 1, 3, 1},
		// Its owner is the taker, whoever gets it.
		{7, 2, 3, 1}, {7, 2, 1, 1}, {7, 2, 2, 1}, {7, 2, 16, 1},
		// Who is none of the ledger's parties, or may not be one.
		{7, 4, 3, 1}, {7, 15, 3, 1}, {7, 0, 3, 1}, {7, 17, 3, 1}, {7, 255, 3, 1}, {7, 4, 2, 1}, {7, 0, 2, 1},
		{7, 1, 4, 1}, {7, 1, 15, 1}, {7, 1, 0, 1}, {7, 1, 17, 1}, {7, 1, 255, 1}, {7, 4, 4, 1}, {7, 0, 0, 1},
		{8, 1, 3, 1}, {8, 1, 4, 1}, {8, 1, 1, 1}, {8, 4, 4, 1}, {8, 4, 3, 1},
		// More than may be filled.
		{7, 1, 3, 9}, {7, 1, 3, amount}, {7, 1, 3, amount + 1}, {7, 1, 3, most}, {7, 1, 16, 1}, {7, 16, 3, 7}, {7, 1, 2, 9},
	} {
		what := fmt.Sprint(i)
		refused(t, what, h, c.seq, c.taker, c.to, c.n, api.ErrArg)
		if c.n == 1 {
			may(t, what, h, c.seq, c.taker, c.to, most, most, 0)
			may(t, what, h, c.seq, c.taker, c.to, 1, 2, 0)
		}
	}
	// Below 1, with nothing else wrong; and with something.
	for _, n := range []int64{0, -1, -8, -amount, least} {
		for _, c := range []struct {
			seq       uint64
			taker, to api.Party
		}{{7, 1, 3}, {7, 1, 1}, {7, 1, 2}, {7, 2, 3}, {7, 4, 3}, {8, 1, 3}, {9, 1, 3}, {9, 0, 0}} {
			refused(t, "below 1", h, c.seq, c.taker, c.to, n, api.ErrArg)
			may(t, "below 1", h, c.seq, c.taker, c.to, n, most, 0)
			may(t, "below 1", h, c.seq, c.taker, c.to, most, n, 0)
			may(t, "below 1", h, c.seq, c.taker, c.to, n, n, 0)
		}
	}
	// With nothing wrong they go.
	may(t, "well", h, 7, 16, 3, most, most, 6)
	may(t, "well", h, 7, 1, 3, most, most, 8)
	done(t, "well", h, 7, 16, 3, 6, 9)
	done(t, "well", h, 7, 1, 3, 2, 3)
}

// P10.1, P10.2: the offer's owner, or the one toward whom it goes, becomes a party behind a refused fill.
func TestDoBehind(t *testing.T) {
	h := stocked([]api.Party{1, 5}, []api.Line{line(2, 5, 1, 9, 0)}, offer(2, 8, 1, 1)).house(t)
	refused(t, "no owner", h, 7, 1, 5, 1, api.ErrArg)
	h.L.Open(2)
	refused(t, "no way", h, 7, 1, 5, 1, api.ErrArg)
	h.L.Trust(2, 5, 2, 7)
	refused(t, "no way of what is sold", h, 7, 1, 5, 1, api.ErrArg)
	may(t, "to the owner", h, 7, 1, 2, most, most, 7)
	may(t, "to nobody", h, 7, 1, 3, most, most, 0)
	h.L.Trust(5, 2, 1, 6)
	may(t, "well", h, 7, 1, 5, most, most, 6)
	h.L.Open(3)
	h.L.Trust(3, 5, 1, 3)
	done(t, "well", h, 7, 1, 3, 3, 3)
	h.B.Cancel(2, 7)
	refused(t, "taken back", h, 7, 1, 5, 1, api.ErrArg)
}

// P10.1, P10.2: each number that a party could have, as the taker, and as the one toward whom it goes.
func TestEachParty(t *testing.T) {
	var lines []api.Line
	for _, p := range all()[:8] {
		if p != 2 {
			lines = append(lines, line(1, p, 2, 3, 0), line(2, 2, p, 5, 0))
		}
	}
	was := stocked(all()[:8], lines, offer(2, 4, 2, 1))
	h := was.house(t)
	for p := range 256 {
		for _, q := range []api.Party{0, 1, 2, 8, 9, 16, 17, 255} {
			eachWay(t, h, api.Party(p), q)
			eachWay(t, h, q, api.Party(p))
		}
	}
	was.holds(t, "at the end", h)
}

// eachWay asks of a house with the parties 1 to 8, where each but 2 gets 3 and gives 5.
func eachWay(t *testing.T, h fills.House, taker, to api.Party) {
	t.Helper()
	if taker < 1 || taker > 8 || to < 1 || to > 8 || taker == 2 {
		may(t, "each", h, 7, taker, to, most, most, 0)
		refused(t, "each", h, 7, taker, to, 1, api.ErrArg)
		return
	}
	may(t, "each", h, 7, taker, to, most, most, 2)
	may(t, "each", h, 7, taker, to, most, 3, 1)
	refused(t, "each", h, 7, taker, to, 3, api.ErrArg)
	done(t, "each", h.Copy(), 7, taker, to, 2, 4)
}

// R1, R3, P10.2: without a ledger, or a book, or with one that no call made, nothing may be filled, and ErrNil comes ahead of all else; those that were made, and have nothing, are there.
func TestNothing(t *testing.T) {
	tried := new(ledgers.Ledger)
	tried.Open(1)
	placed := new(books.Book)
	placed.Place(1, 1, 2, 9, api.Rat{Num: 1, Den: 1})
	full := stocked(all()[:3], []api.Line{line(1, 3, 2, 9, 0), line(2, 2, 1, 9, 0)}, offer(2, 8, 1, 1)).house(t)
	noLedgers, noBooks := []*ledgers.Ledger{nil, {}, tried}, []*books.Book{nil, {}, placed}
	var houses []fills.House
	for i := range 3 {
		for j := range 3 {
			houses = append(houses, fills.House{L: noLedgers[i], B: noBooks[j]})
		}
		houses = append(houses, fills.House{L: full.L, B: noBooks[i]}, fills.House{L: noLedgers[i], B: full.B})
		houses = append(houses, fills.House{L: ledgers.New(), B: noBooks[i]}, fills.House{L: noLedgers[i], B: books.New()})
	}
	for i, h := range houses {
		asked(t, fmt.Sprint(i), h, api.ErrNil)
	}
	for i, h := range []fills.House{{L: ledgers.New(), B: books.New()}, {L: full.L, B: books.New()}, {L: ledgers.New(), B: full.B}} {
		asked(t, fmt.Sprint("there ", i), h, api.ErrArg)
	}
}

// asked of a house where nothing may be filled, with whatever there is.
func asked(t *testing.T, what string, h fills.House, e api.Errno) {
	t.Helper()
	for _, seq := range []uint64{0, 1, 7, math.MaxUint64} {
		for _, taker := range []api.Party{0, 1, 2, 17} {
			for _, to := range []api.Party{0, 1, 2, 3, 255} {
				for _, n := range []int64{least, 0, 1, amount, amount + 1, most} {
					refused(t, what, h, seq, taker, to, n, e)
					may(t, what, h, seq, taker, to, n, most, 0)
					may(t, what, h, seq, taker, to, 1, n, 0)
				}
			}
		}
	}
}

// P10.3, R5: a copy has the same, stays where the house fills, and fills where the house stays.
func TestCopy(t *testing.T) {
	was := stocked(all()[:4], []api.Line{line(1, 3, 2, 9, 1), line(2, 2, 1, 9, 2), line(8, 1, 4, 5, 5)}, offer(2, 8, 1, 1), api.Offer{Seq: 8, Owner: 4, Sell: 8, Buy: 1, Left: 3, Rate: api.Rat{Num: 5, Den: 3}})
	h := was.house(t)
	c := h.Copy()
	if c.L == h.L || c.B == h.B {
		t.Fatal("the copy is the same one")
	}
	was.holds(t, "the copy", c)
	was.holds(t, "the house, copied", h)
	done(t, "the house", h, 7, 1, 3, 5, 5)
	was.holds(t, "the copy, behind the house's fill", c)
	filled := stockOf(h)
	done(t, "the copy", c, 7, 1, 3, 7, 7)
	filled.holds(t, "the house, behind the copy's fill", h)
}

// P10.3, R3: a copy of what has nothing, or no ledger, or no book.
func TestCopyOfNothing(t *testing.T) {
	full := stocked(all()[:3], []api.Line{line(1, 3, 2, 9, 0)}, offer(2, 8, 1, 1)).house(t)
	for i, h := range []fills.House{{}, {L: new(ledgers.Ledger), B: new(books.Book)}} {
		if c := h.Copy(); c != (fills.House{}) {
			t.Errorf("%d: the copy has something", i)
		}
	}
	c := fills.House{L: full.L}.Copy()
	if c.L == nil || c.B != nil {
		t.Error("the copy without a book")
	}
	stock{parties: all()[:3], lines: []api.Line{line(1, 3, 2, 9, 0)}}.holds(t, "without a book", c)
	c = fills.House{B: full.B}.Copy()
	if c.L != nil || c.B == nil {
		t.Error("the copy without a ledger")
	}
	stock{offers: []api.Offer{offer(2, 8, 1, 1)}, next: 12}.holds(t, "without a ledger", c)
	c = fills.House{L: ledgers.New(), B: books.New()}.Copy()
	if c.L == nil || c.B == nil || c.L.Open(1) != api.OK || c.B.Next() != 1 {
		t.Error("the copy of what has nothing")
	}
}
