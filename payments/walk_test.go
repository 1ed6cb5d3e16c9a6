package payments_test

import (
	"fmt"
	"slices"
	"testing"

	"countinghouse/api"
	"countinghouse/flows"
	"countinghouse/graphs"
	"countinghouse/ledgers"
	"countinghouse/payments"
)

// dice throws the same numbers in each run.
type dice uint64

func (d *dice) below(n int) int {
	*d = *d*6364136223846793005 + 1442695040888963407
	return int(*d >> 33 % dice(n))
}

// some parties, rising.
func (d *dice) some(n int) []api.Party {
	l := all()
	for len(l) > n {
		at := d.below(len(l))
		l = slices.Delete(l, at, at+1)
	}
	return l
}

// opened is a ledger of some parties, with lines of the currencies 1, 2 and 8, some both ways, of which something is owed, now and then by both to one another.
func (d *dice) opened(t *testing.T, parties []api.Party, dense int, high int64) *ledgers.Ledger {
	t.Helper()
	var lines []api.Line
	for _, c := range []api.Currency{1, 1, 2, 8} {
		for _, a := range parties {
			for _, b := range parties {
				if a == b || d.below(100) >= dense || len(lines) == api.MaxLines {
					continue
				}
				x := in(c, line(a, b, 1+d.upTo(high-1), 0))
				x.Debt = min(x.Limit, d.upTo(high))
				if !slices.ContainsFunc(lines, func(y api.Line) bool {
					return y.Creditor == a && y.Debtor == b && y.Currency == c
				}) {
					lines = append(lines, x)
				}
			}
		}
	}
	return made(t, parties, lines...)
}

// upTo is from 0 to a number that is allowed itself.
func (d *dice) upTo(high int64) int64 {
	return (int64(d.below(1<<30))<<20 + int64(d.below(1<<20))) % (high + 1)
}

// narrowest is the least of what may go outward by a ledger's lines, together, from any of its parties that from is among, and to is not.
func narrowest(l *ledgers.Ledger, from, to api.Party, c api.Currency) int64 {
	best := int64(most)
	for set := range 1 << len(l.Parties()) {
		inside := map[api.Party]bool{}
		for i, p := range l.Parties() {
			inside[p] = set>>i&1 == 1
		}
		if !inside[from] || inside[to] {
			continue
		}
		sum := int64(0)
		for _, x := range l.Lines() {
			switch {
			case x.Currency != c:
			case inside[x.Debtor] && !inside[x.Creditor]: // more may be owed
				sum += x.Limit - x.Debt
			case inside[x.Creditor] && !inside[x.Debtor]: // what is owed may go back
				sum += x.Debt
			}
		}
		best = min(best, sum)
	}
	return best
}

// A standing is all parties' positions, those that are none of the ledger's too, in all currencies.
type standing map[api.Currency]map[api.Party]int64

func stands(l *ledgers.Ledger) standing {
	s := standing{}
	for c := range api.Currency(8) {
		s[c+1] = map[api.Party]int64{}
		for _, p := range all() {
			s[c+1][p] = l.Position(p, c+1)
		}
	}
	return s
}

// moved asks whether from stands so much lower in a currency than it did, to as much higher, and nobody else, in no other one, anywhere else.
func moved(t *testing.T, what string, was, is standing, from, to api.Party, c api.Currency, n int64) {
	t.Helper()
	for currency, positions := range is {
		for p, got := range positions {
			want := was[currency][p]
			switch {
			case currency == c && p == from:
				want -= n
			case currency == c && p == to:
				want += n
			}
			if got != want {
				t.Fatalf("%s: %d stands at %d of %d, not %d", what, p, got, currency, want)
			}
		}
	}
}

// bounded asks whether the lines have the limits they had, and each debt lies from 0 to its limit.
func bounded(t *testing.T, what string, was, is []api.Line) {
	t.Helper()
	if len(is) != len(was) {
		t.Fatalf("%s: %d lines, not %d", what, len(is), len(was))
	}
	for i, x := range is {
		y := was[i]
		if y.Debt = x.Debt; x != y || x.Debt < 0 || x.Debt > x.Limit {
			t.Fatalf("%s: the line %v was %v", what, x, was[i])
		}
	}
}

// pushed is a copy of a ledger in which a payment's route was pushed, one push behind the other, and how many they were.
func pushed(t *testing.T, what string, l *ledgers.Ledger, from, to api.Party, c api.Currency, n int64) (*ledgers.Ledger, int64) {
	t.Helper()
	l = l.Copy()
	pushes, got := flows.Route(graphs.Of(l, c), from, to, n)
	if got != n {
		t.Fatalf("%s: the route got %d", what, got)
	}
	for _, x := range pushes {
		if e := l.Push(x.From, x.To, c, x.N); e != api.OK {
			t.Fatalf("%s: Push(%v): %v", what, x, e)
		}
	}
	return l, int64(len(pushes))
}

// paid does a payment that goes, and holds all that the document says of it; then back as much, in a copy.
func paid(t *testing.T, what string, l *ledgers.Ledger, from, to api.Party, c api.Currency, n int64) int64 {
	t.Helper()
	want, many := pushed(t, what, l, from, to, c, n)
	was, lines, parties := stands(l), l.Lines(), l.Parties()
	pays(t, what, l, from, to, c, n, many, api.OK)
	holds(t, what, l, parties, want.Lines())
	moved(t, what, was, stands(l), from, to, c, n)
	bounded(t, what, lines, l.Lines())
	back := l.Copy()
	if _, e := payments.Pay(back, to, from, c, n); e != api.OK {
		t.Fatalf("%s: back: %v", what, e)
	}
	moved(t, what+", back", was, stands(back), from, to, c, 0)
	bounded(t, what+", back", lines, back.Lines())
	return many
}

// P9.1 to P9.3: payments one behind the other: from any to any, of what goes at most, one less, one more, or whatever.
func TestWalk(t *testing.T) {
	came := map[api.Errno]int{}
	long, rich := 0, 0
	for seed := range 150 {
		d := dice(seed)
		l := d.opened(t, d.some(6), 10+5*d.below(10), []int64{3, 20, amount}[d.below(3)])
		for i := range 40 {
			from, to, c := l.Parties()[d.below(6)], l.Parties()[d.below(6)], []api.Currency{1, 1, 1, 2, 8}[d.below(5)]
			if from == to {
				continue
			}
			what := fmt.Sprintf("walk %d, step %d", seed, i)
			top := narrowest(l, from, to, c)
			goes(t, what, l, from, to, c, top)
			n := []int64{top, top - 1, top + 1, 1, 1 + d.upTo(top)}[d.below(5)]
			e := api.OK
			switch {
			case n < 1 || n > amount:
				e = api.ErrArg
			case n > top:
				e = api.ErrRoute
			}
			came[e]++
			if e != api.OK {
				pays(t, what, l, from, to, c, n, 0, e)
				continue
			}
			if paid(t, what, l, from, to, c, n) > 4 {
				long++
			}
			if top > amount {
				rich++
			}
			goes(t, what, l, from, to, c, top-n)
		}
	}
	if came[api.OK] < 1000 || came[api.ErrRoute] < 500 || came[api.ErrArg] < 100 || long < 300 || rich < 100 {
		t.Errorf("%v came, %d payments of more than 4 pushes, %d where more than MaxAmount went", came, long, rich)
	}
}

// P9.2: whatever is handed in, one behind the other.
func TestWalkOfWrong(t *testing.T) {
	came := map[api.Errno]int{}
	for seed := range 60 {
		d := dice(seed)
		l := d.opened(t, d.some(7), 30, 9)
		for i := range 100 {
			from, to := api.Party(d.below(18)), api.Party(d.below(18))
			c := []api.Currency{0, 1, 1, 1, 2, 2, 3, 8, 8, 9}[d.below(10)]
			n := []int64{least, -1, 0, 1, 2, 3, 4, amount, amount + 1, most}[d.below(10)]
			what := fmt.Sprintf("walk %d, step %d", seed, i)
			e := said(l, from, to, c, n)
			came[e]++
			if e != api.OK {
				pays(t, what, l, from, to, c, n, 0, e)
				continue
			}
			paid(t, what, l, from, to, c, n)
		}
	}
	for _, e := range []api.Errno{api.OK, api.ErrArg, api.ErrNone, api.ErrRoute} {
		if came[e] < 30 {
			t.Errorf("%v came %d times only", e, came[e])
		}
	}
}
