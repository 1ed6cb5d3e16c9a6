package payments_test

import (
	"cmp"
	"fmt"
	"math"
	"slices"
	"testing"

	"countinghouse/api"
	"countinghouse/flows"
	"countinghouse/graphs"
	"countinghouse/ledgers"
	"countinghouse/payments"
)

const (
	amount = api.MaxAmount
	most   = math.MaxInt64
	least  = math.MinInt64
)

// line of the currency 1, as the document's lists have it: creditor, debtor, limit, debt.
func line(creditor, debtor api.Party, limit, debt int64) api.Line {
	return api.Line{Creditor: creditor, Debtor: debtor, Currency: 1, Limit: limit, Debt: debt}
}

// in another currency a line.
func in(c api.Currency, x api.Line) api.Line {
	x.Currency = c
	return x
}

// all parties, rising.
func all() (l []api.Party) {
	for p := range api.Party(16) {
		l = append(l, p+1)
	}
	return l
}

// sorted as a ledger tells them: by currency, of one by creditor, of one by debtor.
func sorted(lines []api.Line) []api.Line {
	lines = slices.Clone(lines)
	slices.SortFunc(lines, func(a, b api.Line) int {
		return cmp.Or(cmp.Compare(a.Currency, b.Currency), cmp.Compare(a.Creditor, b.Creditor), cmp.Compare(a.Debtor, b.Debtor))
	})
	return lines
}

// made is a ledger of these parties with these lines, in any order.
func made(t *testing.T, parties []api.Party, lines ...api.Line) *ledgers.Ledger {
	t.Helper()
	l, e := ledgers.Of(parties, sorted(lines))
	if e != api.OK || l == nil {
		t.Fatalf("Of(%v, %v): %v", parties, lines, e)
	}
	return l
}

// holds asks whether a ledger has just these.
func holds(t *testing.T, what string, l *ledgers.Ledger, parties []api.Party, lines []api.Line) {
	t.Helper()
	if got := l.Parties(); !slices.Equal(got, parties) {
		t.Fatalf("%s: parties %v, not %v", what, got, parties)
	}
	if got := l.Lines(); !slices.Equal(got, lines) {
		t.Fatalf("%s: lines %v, not %v", what, got, lines)
	}
}

// goes asks for what goes at most, and whether the ledger stays.
func goes(t *testing.T, what string, l *ledgers.Ledger, from, to api.Party, c api.Currency, want int64) {
	t.Helper()
	parties, lines := l.Parties(), l.Lines()
	what = fmt.Sprintf("%s: Most(%d, %d, %d)", what, from, to, c)
	if got := payments.Most(l, from, to, c); got != want {
		t.Fatalf("%s: %d, not %d", what, got, want)
	}
	holds(t, what, l, parties, lines)
}

// pays asks for a payment; with an error the ledger stays.
func pays(t *testing.T, what string, l *ledgers.Ledger, from, to api.Party, c api.Currency, n, many int64, e api.Errno) {
	t.Helper()
	parties, lines := l.Parties(), l.Lines()
	what = fmt.Sprintf("%s: Pay(%d, %d, %d, %d)", what, from, to, c, n)
	if gotMany, gotE := payments.Pay(l, from, to, c, n); gotMany != many || gotE != e {
		t.Fatalf("%s: %d, %v; not %d, %v", what, gotMany, gotE, many, e)
	}
	if e != api.OK {
		holds(t, what, l, parties, lines)
	}
}

// The document's examples, one behind the other.
func TestExamples(t *testing.T) {
	l := ledgers.New()
	for _, p := range all()[:3] {
		l.Open(p)
	}
	l.Trust(2, 1, 1, 10)
	l.Trust(3, 2, 1, 4)
	goes(t, "example", l, 1, 3, 1, 4)
	pays(t, "example", l, 1, 3, 1, 5, 0, api.ErrRoute)
	pays(t, "example", l, 1, 3, 1, 4, 2, api.OK)
	holds(t, "paid", l, all()[:3], []api.Line{line(2, 1, 10, 4), line(3, 2, 4, 4)})
	pays(t, "example", l, 3, 1, 1, 4, 2, api.OK)
	holds(t, "paid back", l, all()[:3], []api.Line{line(2, 1, 10, 0), line(3, 2, 4, 0)})
	pays(t, "example", l, 1, 1, 1, 4, 0, api.ErrArg)
	pays(t, "example", l, 1, 9, 1, 4, 0, api.ErrNone)
}

// P9.1 to P9.3: payments by hand, of all that goes or less: what is owed by then, and how many pushes it took; one more than goes is refused, and so is each payment of more.
func TestPay(t *testing.T) {
	for i, c := range []struct {
		lines      []api.Line
		from, to   api.Party
		goes       int64
		n, pushes  int64
		linesAfter []api.Line
	}{
		// One line: the least, a part, all of it.
		{[]api.Line{line(2, 1, 10, 0)}, 1, 2, 10, 1, 1, []api.Line{line(2, 1, 10, 1)}},
		{[]api.Line{line(2, 1, 10, 3)}, 1, 2, 7, 4, 1, []api.Line{line(2, 1, 10, 7)}},
		{[]api.Line{line(2, 1, 10, 3)}, 1, 2, 7, 7, 1, []api.Line{line(2, 1, 10, 10)}},
		{[]api.Line{line(1, 16, amount, 0)}, 16, 1, amount, amount, 1, []api.Line{line(1, 16, amount, amount)}},
		{[]api.Line{line(1, 16, amount, amount)}, 1, 16, amount, amount, 1, []api.Line{line(1, 16, amount, 0)}},
		// What is owed goes back first; what is left is owed the other way.
		{[]api.Line{line(1, 2, 10, 6)}, 1, 2, 6, 4, 1, []api.Line{line(1, 2, 10, 2)}},
		{[]api.Line{line(1, 2, 10, 6)}, 1, 2, 6, 6, 1, []api.Line{line(1, 2, 10, 0)}},
		{[]api.Line{line(1, 2, 10, 6), line(2, 1, 5, 0)}, 1, 2, 11, 6, 1, []api.Line{line(1, 2, 10, 0), line(2, 1, 5, 0)}},
		{[]api.Line{line(1, 2, 10, 6), line(2, 1, 5, 0)}, 1, 2, 11, 9, 1, []api.Line{line(1, 2, 10, 0), line(2, 1, 5, 3)}},
		{[]api.Line{line(1, 2, 10, 6), line(2, 1, 5, 1)}, 1, 2, 10, 10, 1, []api.Line{line(1, 2, 10, 0), line(2, 1, 5, 5)}},
		{[]api.Line{line(1, 2, 10, 6), line(2, 1, 5, 1)}, 2, 1, 5, 3, 1, []api.Line{line(1, 2, 10, 8), line(2, 1, 5, 0)}},
		// Over others, of whom none is richer or poorer by it.
		{[]api.Line{line(2, 1, 5, 0), line(3, 2, 4, 0), line(4, 3, 6, 0)}, 1, 4, 4, 3, 3, []api.Line{line(2, 1, 5, 3), line(3, 2, 4, 3), line(4, 3, 6, 3)}},
		{[]api.Line{line(2, 1, 5, 0), line(2, 3, 9, 3), line(4, 3, 6, 5)}, 1, 4, 1, 1, 3, []api.Line{line(2, 1, 5, 1), line(2, 3, 9, 2), line(4, 3, 6, 6)}},
		// The shortest way first, then the least one of those as long.
		{[]api.Line{line(3, 1, 2, 0), line(2, 1, 9, 0), line(3, 2, 9, 0)}, 1, 3, 11, 2, 1, []api.Line{line(2, 1, 9, 0), line(3, 1, 2, 2), line(3, 2, 9, 0)}},
		{[]api.Line{line(3, 1, 2, 0), line(2, 1, 9, 0), line(3, 2, 9, 0)}, 1, 3, 11, 5, 3, []api.Line{line(2, 1, 9, 3), line(3, 1, 2, 2), line(3, 2, 9, 3)}},
		{[]api.Line{line(3, 1, 9, 0), line(4, 3, 9, 0), line(2, 1, 3, 0), line(4, 2, 8, 0)}, 1, 4, 12, 3, 2, []api.Line{line(2, 1, 3, 3), line(3, 1, 9, 0), line(4, 2, 8, 3), line(4, 3, 9, 0)}},
		{[]api.Line{line(3, 1, 9, 0), line(4, 3, 9, 0), line(2, 1, 3, 0), line(4, 2, 8, 0)}, 1, 4, 12, 4, 4, []api.Line{line(2, 1, 3, 3), line(3, 1, 9, 1), line(4, 2, 8, 3), line(4, 3, 9, 1)}},
		// What an earlier way gave is taken back: 2 to 3 goes back.
		{[]api.Line{line(2, 1, 1, 0), line(3, 2, 1, 0), line(9, 3, 1, 0), line(4, 1, 1, 0), line(5, 4, 1, 0), line(3, 5, 1, 0), line(6, 2, 1, 0), line(7, 6, 1, 0), line(9, 7, 1, 0)}, 1, 9, 2, 2, 10,
			[]api.Line{line(2, 1, 1, 1), line(3, 2, 1, 0), line(3, 5, 1, 1), line(4, 1, 1, 1), line(5, 4, 1, 1), line(6, 2, 1, 1), line(7, 6, 1, 1), line(9, 3, 1, 1), line(9, 7, 1, 1)}},
		// Taken back where both owe one another: 3 pays 2 what it owed first, 2 pays 3 what it owed, and no more goes the one way as the other one.
		{[]api.Line{line(2, 1, 5, 0), line(3, 2, 4, 1), line(2, 3, 4, 4), line(9, 3, 5, 0), line(4, 1, 2, 0), line(5, 4, 2, 0), line(3, 5, 2, 0), line(6, 2, 2, 0), line(7, 6, 2, 0), line(9, 7, 2, 0)}, 1, 9, 7, 7, 10,
			[]api.Line{line(2, 1, 5, 5), line(2, 3, 4, 0), line(3, 2, 4, 0), line(3, 5, 2, 2), line(4, 1, 2, 2), line(5, 4, 2, 2), line(6, 2, 2, 2), line(7, 6, 2, 2), line(9, 3, 5, 5), line(9, 7, 2, 2)}},
		// Lines that lead elsewhere, or the other way, and another currency's are in nobody's way.
		{[]api.Line{line(2, 1, 4, 0), line(1, 2, 9, 0), line(1, 3, 9, 0), line(4, 1, 9, 0), in(2, line(2, 1, 9, 0)), in(8, line(3, 1, 9, 2))}, 1, 2, 4, 4, 1,
			[]api.Line{line(1, 2, 9, 0), line(1, 3, 9, 0), line(2, 1, 4, 4), line(4, 1, 9, 0), in(2, line(2, 1, 9, 0)), in(8, line(3, 1, 9, 2))}},
	} {
		what := fmt.Sprint(i)
		l := made(t, all(), c.lines...)
		goes(t, what, l, c.from, c.to, 1, c.goes)
		over := api.ErrRoute
		if c.goes == amount {
			over = api.ErrArg
		}
		pays(t, what, l, c.from, c.to, 1, c.goes+1, 0, over)
		pays(t, what, l, c.from, c.to, 1, c.n, c.pushes, api.OK)
		holds(t, what, l, all(), c.linesAfter)
		goes(t, what, l, c.from, c.to, 1, c.goes-c.n)
		if c.goes == c.n {
			pays(t, what, l, c.from, c.to, 1, 1, 0, api.ErrRoute)
		}
	}
}

// chain lets each party owe the next one.
func chain(c api.Currency, limit int64) (lines []api.Line) {
	for _, p := range all()[1:] {
		lines = append(lines, in(c, line(p, p-1, limit, 0)))
	}
	return lines
}

// P9.2, P9.3: over all parties, in the first currency and the last one, and back.
func TestPayOverAll(t *testing.T) {
	for _, c := range []api.Currency{1, 8} {
		was := chain(c, amount)
		l := made(t, all(), was...)
		goes(t, "chain", l, 1, 16, c, amount)
		goes(t, "chain", l, 16, 1, c, 0)
		goes(t, "another currency", l, 1, 16, 9-c, 0)
		pays(t, "another currency", l, 1, 16, 9-c, 1, 0, api.ErrRoute)
		pays(t, "chain", l, 1, 16, c, amount, 15, api.OK)
		for _, x := range l.Lines() {
			if x.Debt != amount {
				t.Errorf("the line %v", x)
			}
		}
		pays(t, "chain", l, 1, 16, c, 1, 0, api.ErrRoute)
		pays(t, "back", l, 16, 1, c, amount, 15, api.OK)
		holds(t, "back", l, all(), was)
	}
}

// P9.1, P9.2: more than MaxAmount may go, but none may be paid at once.
func TestPayOfMuch(t *testing.T) {
	lines := []api.Line{line(16, 1, amount, 0), line(1, 16, amount, amount)}
	for _, p := range all()[1:15] {
		lines = append(lines, line(p, 1, amount, 0), line(1, p, amount, amount), line(16, p, amount, 0), line(p, 16, amount, amount))
	}
	l := made(t, all(), lines...)
	goes(t, "much", l, 1, 16, 1, 30*amount)
	goes(t, "much", l, 16, 1, 1, 0)
	for _, n := range []int64{amount + 1, 2 * amount, 30 * amount, most} {
		pays(t, "much", l, 1, 16, 1, n, 0, api.ErrArg)
	}
	for i := range int64(30) {
		many := int64(2)
		if i < 2 {
			many = 1
		}
		pays(t, "much", l, 1, 16, 1, amount, many, api.OK)
		goes(t, "much", l, 1, 16, 1, (29-i)*amount)
		goes(t, "much", l, 16, 1, 1, (i+1)*amount)
	}
	pays(t, "much", l, 1, 16, 1, 1, 0, api.ErrRoute)
	pays(t, "much", l, 1, 16, 1, amount, 0, api.ErrRoute)
}

// P9.2: each thing that may be wrong, at its bounds; of several the first that the promise names.
func TestPayWrong(t *testing.T) {
	parties := []api.Party{1, 2, 3, 16}
	l := made(t, parties, line(2, 1, 10, 2), line(16, 2, 4, 0), line(1, 16, 9, 3), in(8, line(16, 1, 5, 1)))
	for i, c := range []struct {
		from, to api.Party
		c        api.Currency
		n        int64
		e        api.Errno
	}{
		// Parties that may not be, or are the same.
		{0, 2, 1, 1, api.ErrArg}, {1, 0, 1, 1, api.ErrArg}, {17, 2, 1, 1, api.ErrArg}, {1, 17, 1, 1, api.ErrArg},
		{255, 2, 1, 1, api.ErrArg}, {1, 255, 1, 1, api.ErrArg}, {0, 0, 1, 1, api.ErrArg},
		{1, 1, 1, 1, api.ErrArg}, {2, 2, 1, 1, api.ErrArg}, {16, 16, 8, 1, api.ErrArg},
		// Currencies that may not be; and those that may, without a line.
		{1, 2, 0, 1, api.ErrArg}, {1, 2, 9, 1, api.ErrArg}, {1, 2, 255, 1, api.ErrArg},
		{1, 2, 2, 1, api.ErrRoute}, {1, 2, 7, 1, api.ErrRoute},
		// Amounts that may not be; and those that may, but don't go.
		{1, 2, 1, 0, api.ErrArg}, {1, 2, 1, -1, api.ErrArg}, {1, 2, 1, -amount, api.ErrArg}, {1, 2, 1, least, api.ErrArg},
		{1, 2, 1, amount + 1, api.ErrArg}, {1, 2, 1, most, api.ErrArg},
		{1, 2, 1, amount, api.ErrRoute}, {1, 2, 1, 12, api.ErrRoute},
		// Who is no party of this ledger.
		{4, 2, 1, 1, api.ErrNone}, {1, 4, 1, 1, api.ErrNone}, {4, 15, 1, 1, api.ErrNone}, {15, 16, 8, amount, api.ErrNone},
		// A party without a line.
		{1, 3, 1, 1, api.ErrRoute}, {3, 1, 1, 1, api.ErrRoute},
		// ErrArg comes ahead of ErrNone, and both ahead of ErrRoute.
		{4, 4, 1, 1, api.ErrArg}, {4, 17, 1, 1, api.ErrArg}, {0, 4, 1, 1, api.ErrArg}, {4, 2, 0, 1, api.ErrArg}, {1, 4, 9, 1, api.ErrArg},
		{4, 2, 1, 0, api.ErrArg}, {4, 2, 1, amount + 1, api.ErrArg}, {4, 2, 1, amount, api.ErrNone}, {1, 4, 8, amount, api.ErrNone},
		{3, 3, 1, amount, api.ErrArg}, {3, 1, 9, amount, api.ErrArg},
	} {
		pays(t, fmt.Sprint(i), l, c.from, c.to, c.c, c.n, 0, c.e)
	}
	// With nothing wrong they go.
	pays(t, "well", l, 1, 2, 1, 9, 0, api.ErrRoute)
	pays(t, "well", l, 1, 2, 1, 8, 1, api.OK)
	pays(t, "well", l, 1, 16, 8, 4, 1, api.OK)
}

// P9.1, P9.2: each number that a party could have.
func TestEachParty(t *testing.T) {
	var lines []api.Line
	for _, a := range all()[:8] {
		for _, b := range all()[:8] {
			if a != b {
				lines = append(lines, line(a, b, 3, 0))
			}
		}
	}
	l := made(t, all()[:8], lines...)
	for a := range 256 {
		for _, b := range []api.Party{0, 1, 2, 8, 9, 16, 17, 255} {
			eachWay(t, l, api.Party(a), b)
			eachWay(t, l, b, api.Party(a))
		}
	}
}

// eachWay asks of a ledger with the parties 1 to 8, where each lets each other one owe 3.
func eachWay(t *testing.T, l *ledgers.Ledger, from, to api.Party) {
	t.Helper()
	switch {
	case from < 1 || from > 16 || to < 1 || to > 16 || from == to:
		goes(t, "each", l, from, to, 1, 0)
		pays(t, "each", l, from, to, 1, 1, 0, api.ErrArg)
	case from > 8 || to > 8:
		goes(t, "each", l, from, to, 1, 0)
		pays(t, "each", l, from, to, 1, 1, 0, api.ErrNone)
	default:
		goes(t, "each", l, from, to, 1, 21)
		paid := l.Copy()
		pays(t, "each", paid, from, to, 1, 21, 13, api.OK)
		goes(t, "each", paid, from, to, 1, 0)
		goes(t, "each", paid, to, from, 1, 42)
	}
}

// P9.1, P9.2: each number that a currency could have.
func TestEachCurrency(t *testing.T) {
	var lines []api.Line
	for c := range api.Currency(8) {
		lines = append(lines, in(c+1, line(2, 1, int64(c)+5, 0)))
	}
	l := made(t, all()[:2], lines...)
	for c := range 256 {
		if c < 1 || c > 8 {
			goes(t, "each", l, 1, 2, api.Currency(c), 0)
			pays(t, "each", l, 1, 2, api.Currency(c), 1, 0, api.ErrArg)
			continue
		}
		goes(t, "each", l, 1, 2, api.Currency(c), int64(c)+4)
		pays(t, "each", l, 1, 2, api.Currency(c), int64(c), 1, api.OK)
		lines[c-1].Debt = int64(c)
		holds(t, "each", l, all()[:2], lines)
	}
}

// R1, R3: without a ledger, or with one that no call made, nothing goes, and ErrNil comes ahead of all else; a ledger that was made, and has nothing, is one.
func TestPayOfNothing(t *testing.T) {
	tried := new(ledgers.Ledger)
	tried.Open(1)
	tried.Trust(1, 2, 1, 10)
	for i, c := range []struct {
		l     *ledgers.Ledger
		there bool
	}{{nil, false}, {&ledgers.Ledger{}, false}, {tried, false}, {ledgers.New(), true}, {made(t, nil), true}} {
		for _, from := range []api.Party{0, 1, 2, 16, 17, 255} {
			for _, to := range []api.Party{0, 1, 2, 16, 17, 255} {
				for _, currency := range []api.Currency{0, 1, 8, 9, 255} {
					goes(t, fmt.Sprint(i), c.l, from, to, currency, 0)
					for _, n := range []int64{least, -1, 0, 1, amount, amount + 1, most} {
						e := api.ErrNil
						if c.there {
							e = said(c.l, from, to, currency, n)
						}
						pays(t, fmt.Sprint(i), c.l, from, to, currency, n, 0, e)
					}
				}
			}
		}
	}
}

// said is the error of a payment by the document's words, of a ledger that is there.
func said(l *ledgers.Ledger, from, to api.Party, c api.Currency, n int64) api.Errno {
	currencies := []api.Currency{1, 2, 3, 4, 5, 6, 7, 8}
	if !slices.Contains(all(), from) || !slices.Contains(all(), to) || from == to || !slices.Contains(currencies, c) || n <= 0 || n > amount {
		return api.ErrArg
	}
	if !slices.Contains(l.Parties(), from) || !slices.Contains(l.Parties(), to) {
		return api.ErrNone
	}
	if _, got := flows.Route(graphs.Of(l, c), from, to, n); got < n {
		return api.ErrRoute
	}
	return api.OK
}

// R5: a copy stays where the other one pays; what is opened, or trusted, behind a refused payment counts in the next one.
func TestPayBehind(t *testing.T) {
	l := made(t, []api.Party{1, 2}, line(2, 1, 5, 0))
	other := l.Copy()
	pays(t, "first", l, 1, 2, 1, 5, 1, api.OK)
	holds(t, "the copy", other, []api.Party{1, 2}, []api.Line{line(2, 1, 5, 0)})
	pays(t, "behind", l, 1, 3, 1, 2, 0, api.ErrNone)
	l.Open(3)
	pays(t, "behind", l, 1, 3, 1, 2, 0, api.ErrRoute)
	l.Trust(3, 2, 1, 2)
	pays(t, "behind", l, 1, 3, 1, 2, 0, api.ErrRoute)
	l.Trust(2, 1, 1, 7)
	pays(t, "behind", l, 1, 3, 1, 2, 2, api.OK)
	holds(t, "behind", l, []api.Party{1, 2, 3}, []api.Line{line(2, 1, 7, 7), line(3, 2, 2, 2)})
	l.Forgive(2, 1, 1, 3)
	goes(t, "forgiven", l, 1, 2, 1, 3)
	holds(t, "the copy", other, []api.Party{1, 2}, []api.Line{line(2, 1, 5, 0)})
}
