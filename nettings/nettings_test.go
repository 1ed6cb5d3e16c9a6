package nettings_test

import (
	"cmp"
	"fmt"
	"math"
	"slices"
	"testing"

	"countinghouse/api"
	"countinghouse/ledgers"
	"countinghouse/nettings"
)

const (
	amount = int64(api.MaxAmount)
	most   = int64(math.MaxInt64)
	least  = int64(math.MinInt64)
)

// owes is a debt, as the document's lists have it: one owes the other one so much.
func owes(a, b api.Party, n int64) api.Flow { return api.Flow{From: a, To: b, N: n} }

// ring: each owes the next one so much, the last one the first one.
func ring(n int64, parties ...api.Party) (debts []api.Flow) {
	for i, p := range parties {
		debts = append(debts, owes(p, parties[(i+1)%len(parties)], n))
	}
	return debts
}

// all parties, rising.
func all() (l []api.Party) {
	for p := range api.Party(16) {
		l = append(l, p+1)
	}
	return l
}

// lines of a currency on which so much is owed, with limits of whatever is above it.
func lines(c api.Currency, debts ...api.Flow) (l []api.Line) {
	for _, x := range debts {
		limit := min(amount, max(1, x.N+int64(x.From%5)+int64(x.To%3)))
		l = append(l, api.Line{Creditor: x.To, Debtor: x.From, Currency: c, Limit: limit, Debt: x.N})
	}
	return l
}

// sorted as a ledger tells them: by currency, of one by creditor, of one by debtor.
func sorted(lists ...[]api.Line) []api.Line {
	l := slices.Concat(lists...)
	slices.SortFunc(l, func(a, b api.Line) int {
		return cmp.Or(cmp.Compare(a.Currency, b.Currency), cmp.Compare(a.Creditor, b.Creditor), cmp.Compare(a.Debtor, b.Debtor))
	})
	return l
}

// made is a ledger of all parties with these lines, in any order.
func made(t *testing.T, lists ...[]api.Line) *ledgers.Ledger {
	t.Helper()
	l, e := ledgers.Of(all(), sorted(lists...))
	if e != api.OK || l == nil {
		t.Fatalf("Of(%v): %v", lists, e)
	}
	return l
}

// settled: the same lines, when so much is left of the debts of a currency.
func settled(was []api.Line, c api.Currency, left []api.Flow) []api.Line {
	is := slices.Clone(was)
	for i, x := range is {
		if x.Currency != c {
			continue
		}
		is[i].Debt = 0
		for _, y := range left {
			if y.From == x.Debtor && y.To == x.Creditor {
				is[i].Debt = y.N
			}
		}
	}
	return is
}

// holds asks whether a ledger has just these.
func holds(t *testing.T, what string, l *ledgers.Ledger, parties []api.Party, lines []api.Line) {
	t.Helper()
	if got := l.Parties(); !slices.Equal(got, parties) {
		t.Fatalf("%s: parties %v, not %v", what, got, parties)
	}
	if got := l.Lines(); !slices.Equal(got, lines) {
		t.Fatalf("%s: lines %v, not %v", what, got, lines)
	}
}

// owed asks for the debts, twice; they are memory of their own, with nothing in its room behind, and the ledger stays.
func owed(t *testing.T, what string, l *ledgers.Ledger, c api.Currency, want ...api.Flow) {
	t.Helper()
	parties, was := l.Parties(), l.Lines()
	what = fmt.Sprintf("%s: Debts(%d)", what, c)
	for range 2 {
		got := nettings.Debts(l, c)
		if !slices.Equal(got, want) || cap(got) != len(got) {
			t.Fatalf("%s: %v in %d, not %v", what, got, cap(got), want)
		}
		for i := range got {
			got[i] = owes(9, 9, -9)
		}
		holds(t, what, l, parties, was)
	}
}

// refused asks for a netting that does not go: nothing is told, and the ledger stays.
func refused(t *testing.T, what string, l *ledgers.Ledger, c api.Currency, quota int64, e api.Errno) {
	t.Helper()
	parties, was := l.Parties(), l.Lines()
	what = fmt.Sprintf("%s: Net(%d, %d)", what, c, quota)
	if gone, many, got := nettings.Net(l, c, quota); gone != 0 || many != 0 || got != e {
		t.Fatalf("%s: %d, %d, %v; not 0, 0, %v", what, gone, many, got, e)
	}
	holds(t, what, l, parties, was)
}

// goes nets a ledger; and done again nothing goes, whatever the quota is.
func goes(t *testing.T, what string, l *ledgers.Ledger, c api.Currency, quota, gone, many int64, after []api.Line) {
	t.Helper()
	parties := l.Parties()
	what = fmt.Sprintf("%s: Net(%d, %d)", what, c, quota)
	if n, m, e := nettings.Net(l, c, quota); n != gone || m != many || e != api.OK {
		t.Fatalf("%s: %d, %d, %v; not %d, %d", what, n, m, e, gone, many)
	}
	holds(t, what, l, parties, after)
	for _, again := range []int64{0, 1, most} {
		if n, m, e := nettings.Net(l, c, again); n != 0 || m != 0 || e != api.OK {
			t.Fatalf("%s, and again: %d, %d, %v", what, n, m, e)
		}
		holds(t, what+", and again", l, parties, after)
	}
}

// netted nets copies of a ledger, with each quota that is worth asking for, then itself: so much goes, in so many rounds, and so much is left. What follows holds.
func netted(t *testing.T, what string, l *ledgers.Ledger, c api.Currency, gone, many int64, left ...api.Flow) {
	t.Helper()
	was, sum, before := l.Lines(), l.Total(c), stands(l)
	for _, quota := range []int64{least, -many - 1, -1} {
		refused(t, what, l, c, quota, api.ErrArg)
	}
	for _, quota := range []int64{0, many / 2, many - 1} {
		if 0 <= quota && quota < many {
			refused(t, what, l, c, quota, api.ErrQuota)
		}
	}
	if many > sum {
		t.Fatalf("%s: %d rounds, but %d is owed", what, many, sum)
	}
	after := settled(was, c, left)
	for _, quota := range []int64{many, many + 1, sum, most} {
		goes(t, what, l.Copy(), c, quota, gone, many, after)
	}
	goes(t, what, l, c, many, gone, many, after)
	owed(t, what+", netted", l, c, left...)
	follows(t, what, was, l, c, gone)
	if is := stands(l); is != before {
		t.Fatalf("%s: they stand as %v, not %v", what, is, before)
	}
}

// The document's examples, one behind the other.
func TestExamples(t *testing.T) {
	l := made(t, lines(6, owes(1, 2, 5), owes(2, 3, 3), owes(3, 1, 4)))
	owed(t, "example", l, 6, owes(1, 2, 5), owes(2, 3, 3), owes(3, 1, 4))
	refused(t, "example", l, 6, 0, api.ErrQuota)
	gone, many, e := nettings.Net(l, 6, 1)
	if gone != 9 || many != 1 || e != api.OK {
		t.Errorf("Net(6, 1): %d, %d, %v", gone, many, e)
	}
	owed(t, "example", l, 6, owes(1, 2, 2), owes(3, 1, 1))
	gone, many, e = nettings.Net(l, 6, 0)
	if gone != 0 || many != 0 || e != api.OK {
		t.Errorf("Net(6, 0): %d, %d, %v", gone, many, e)
	}
}

// P13.1: the debts of one currency only, each as much as is owed, by debtors, of one by creditors.
func TestDebts(t *testing.T) {
	for i, debts := range [][]api.Flow{
		nil,
		{owes(1, 2, 5)}, {owes(2, 1, 5)}, {owes(16, 15, 1)}, {owes(1, 16, amount)}, {owes(16, 1, amount-1)},
		// Two that owe each other, as much or not.
		{owes(1, 2, 5), owes(2, 1, 5)}, {owes(7, 9, 5), owes(9, 7, 8)}, {owes(15, 16, amount), owes(16, 15, 1)},
		// By debtors, where by creditors they would stand the other way about; and of one by creditors.
		{owes(1, 9, 3), owes(2, 8, 4), owes(3, 7, 5)},
		{owes(1, 2, 3), owes(1, 3, 2), owes(1, 16, 1)},
		{owes(1, 3, 3), owes(1, 4, 3), owes(2, 1, 3), owes(2, 16, 3), owes(3, 1, 3), owes(3, 2, 3), owes(16, 1, 3)},
		{owes(5, 1, 9), owes(6, 1, 8), owes(7, 1, 7), owes(7, 2, 6), owes(10, 2, 5), owes(11, 10, 4)},
	} {
		for _, c := range []api.Currency{1, 2, 5, 7, 8} {
			others := sorted(lines(c%8+1, debts...), lines((c+1)%8+1, owes(3, 4, 7), owes(4, 3, 7)))
			l := made(t, lines(c, debts...), others)
			owed(t, fmt.Sprint(i), l, c, debts...)
			owed(t, fmt.Sprint(i), l, c%8+1, debts...)
			owed(t, fmt.Sprint(i), l, (c+1)%8+1, owes(3, 4, 7), owes(4, 3, 7))
			owed(t, fmt.Sprint(i), l, (c+2)%8+1)
		}
	}
}

// P13.1: lines on which nothing is owed are no debts, wherever they stand.
func TestDebtsOfNothing(t *testing.T) {
	owed(t, "one", made(t, lines(3, owes(1, 2, 0))), 3)
	owed(t, "all", made(t, lines(3, ring(0, all()...)...)), 3)
	full := []api.Flow{owes(1, 2, 4), owes(2, 3, 1), owes(3, 4, 5), owes(4, 1, 3)}
	for set := range 16 {
		debts := slices.Clone(full)
		var want []api.Flow
		for i := range debts {
			if set>>i&1 == 1 {
				debts[i].N = 0
			} else {
				want = append(want, debts[i])
			}
		}
		owed(t, fmt.Sprint(set), made(t, lines(3, debts...), lines(4, full...)), 3, want...)
	}
	l := made(t, lines(3, full...))
	l.Forgive(2, 1, 3, 4)
	l.Trust(4, 3, 3, 5)
	l.Trust(9, 3, 3, 5)
	owed(t, "forgiven", l, 3, owes(2, 3, 1), owes(3, 4, 5), owes(4, 1, 3))
	l.Trust(2, 1, 3, 0)
	l.Forgive(3, 2, 3, 1)
	owed(t, "gone", l, 3, owes(3, 4, 5), owes(4, 1, 3))
}

// P13.1: lines that were made in whatever order, those of another currency between them: the debts stand as ever.
func TestDebtsMade(t *testing.T) {
	want := []api.Flow{owes(1, 9, 4), owes(2, 1, 7), owes(2, 8, 6), owes(9, 2, 1)}
	for i := range 24 {
		rest, l := slices.Clone(want), ledgers.New()
		for _, p := range []api.Party{9, 2, 8, 1} {
			l.Open(p)
		}
		for _, n := range []int{4, 3, 2, 1} {
			x := rest[i%n]
			rest = slices.Delete(rest, i%n, i%n+1)
			i /= n
			l.Trust(x.To, x.From, 5, 10)
			l.Trust(x.From, x.To, 4, 10)
			if e := l.Push(x.From, x.To, 5, x.N); e != api.OK {
				t.Fatalf("Push(%v): %v", x, e)
			}
			l.Push(x.To, x.From, 4, 10)
		}
		owed(t, "made", l, 5, want...)
		owed(t, "made", l, 4, owes(1, 2, 10), owes(2, 9, 10), owes(8, 2, 10), owes(9, 1, 10))
	}
}

// P13.1: as many lines as may be, one of each pair of parties, or both ways.
func TestDebtsOfMany(t *testing.T) {
	var up, down, both []api.Flow
	for _, a := range all() {
		for _, b := range all() {
			if a < b && len(up) < api.MaxLines {
				up = append(up, owes(a, b, int64(a)*20+int64(b)))
			}
			if b < a && len(down) < api.MaxLines {
				down = append(down, owes(a, b, int64(b)*20+int64(a)))
			}
			if a != b && a <= 8 && b <= 8 {
				both = append(both, owes(a, b, amount))
			}
		}
	}
	for _, debts := range [][]api.Flow{up, down, both} {
		owed(t, "many", made(t, lines(8, debts...)), 8, debts...)
	}
	if len(up) != api.MaxLines || len(down) != api.MaxLines || len(both) != 56 {
		t.Errorf("%d, %d and %d debts", len(up), len(down), len(both))
	}
}

// P13.1, R4: what was answered stays, whatever comes of the ledger; and the ledger nets as ever, whatever comes of the answer.
func TestDebtsKept(t *testing.T) {
	was := []api.Flow{owes(1, 2, 5), owes(2, 3, 3), owes(3, 1, 4)}
	l := made(t, lines(6, was...))
	first, second := nettings.Debts(l, 6), nettings.Debts(l, 6)
	clear(first)
	netted(t, "kept", l, 6, 9, 1, owes(1, 2, 2), owes(3, 1, 1))
	if !slices.Equal(second, was) || !slices.Equal(first, make([]api.Flow, 3)) {
		t.Errorf("%v, and %v", first, second)
	}
}

// P13.2, P13.3: no debts, and debts without a round, wholly stay: nothing goes, with a quota of 0, too.
func TestNoRound(t *testing.T) {
	netted(t, "no lines", made(t), 6, 0, 0)
	netted(t, "nothing owed", made(t, lines(6, ring(0, 1, 2, 3)...)), 6, 0, 0)
	netted(t, "of others", made(t, lines(5, ring(4, 1, 2, 3)...), lines(7, ring(4, 1, 2, 3)...)), 6, 0, 0)
	for i, debts := range [][]api.Flow{
		{owes(1, 2, 5)}, {owes(16, 1, amount)}, {owes(1, 2, 1), owes(2, 3, 1)},
		ring(5, all()...)[:15],
		// Two ways that part and meet again; one that owes two; two that owe one; and none that have to do with one another.
		{owes(1, 2, 4), owes(1, 3, 9), owes(2, 3, 2)}, {owes(1, 2, 4), owes(1, 3, 4), owes(2, 4, 4), owes(3, 4, 4)}, {owes(5, 2, 4), owes(9, 2, 3)}, {owes(1, 2, 4), owes(3, 4, 3)},
	} {
		netted(t, fmt.Sprint(i), made(t, lines(6, debts...)), 6, 0, 0, debts...)
		closed := append(slices.Clone(debts), owes(debts[0].To, debts[0].From, 0))
		if !slices.ContainsFunc(debts, func(x api.Flow) bool { return x.From == debts[0].To && x.To == debts[0].From }) {
			netted(t, fmt.Sprint(i, ", and a line without a debt"), made(t, lines(6, closed...)), 6, 0, 0, debts...)
		}
	}
}

// P13.2, P13.3: one round: just its least debt goes, wherever it stands, and of each other one as much; the line stays, with its limit.
func TestOneRound(t *testing.T) {
	for _, parties := range [][]api.Party{{1, 2}, {16, 15}, {7, 3}, {1, 2, 3}, {3, 2, 1}, {5, 16, 9}, {4, 8, 2, 16}, {9, 1, 16, 2, 15, 3, 14, 4, 13, 5, 12, 6, 11, 7, 10, 8}, all()} {
		for _, n := range []int64{1, 2, 5, amount} {
			l := made(t, lines(6, ring(n, parties...)...), lines(7, ring(n, parties...)...))
			netted(t, "alike", l, 6, n*int64(len(parties)), 1)
			if len(l.Lines()) != 2*len(parties) || l.Total(6) != 0 || l.Total(7) != n*int64(len(parties)) {
				t.Fatalf("%v are left", l.Lines())
			}
		}
		for at := range parties {
			for _, n := range []int64{1, 4, amount / 2} {
				debts := ring(n, parties...)
				var left []api.Flow
				for i, x := range debts {
					if i != at {
						more := int64(x.From) + 2*int64(x.To)
						debts[i].N += more
						left = append(left, owes(x.From, x.To, more))
					}
				}
				netted(t, fmt.Sprint("least at ", at), made(t, lines(6, debts...)), 6, n*int64(len(parties)), 1, byEnds(left)...)
			}
		}
	}
}

// P13.2, P13.3: debts by hand, of several rounds: some go wholly, some in part, some not at all.
func TestNet(t *testing.T) {
	for i, c := range []struct {
		debts      []api.Flow
		gone, many int64
		left       []api.Flow
	}{
		// Two that owe each other.
		{[]api.Flow{owes(1, 2, 5), owes(2, 1, 3)}, 6, 1, []api.Flow{owes(1, 2, 2)}},
		{[]api.Flow{owes(1, 2, 3), owes(2, 1, 5)}, 6, 1, []api.Flow{owes(2, 1, 2)}},
		{[]api.Flow{owes(15, 16, amount), owes(16, 15, 1)}, 2, 1, []api.Flow{owes(15, 16, amount-1)}},
		{[]api.Flow{owes(15, 16, 1), owes(16, 15, amount)}, 2, 1, []api.Flow{owes(16, 15, amount-1)}},
		{[]api.Flow{owes(15, 16, amount), owes(16, 15, amount-1)}, 2*amount - 2, 1, []api.Flow{owes(15, 16, 1)}},
		// Wholly, in part, and not at all, in one ledger.
		{[]api.Flow{owes(1, 2, 8), owes(1, 9, 6), owes(2, 5, 3), owes(5, 1, 7), owes(5, 9, 2)}, 9, 1, []api.Flow{owes(1, 2, 5), owes(1, 9, 6), owes(5, 1, 4), owes(5, 9, 2)}},
		{[]api.Flow{owes(1, 2, 8), owes(1, 9, 6), owes(2, 5, 3), owes(3, 4, 1), owes(4, 3, amount), owes(5, 1, 7), owes(5, 9, 2)}, 11, 2, []api.Flow{owes(1, 2, 5), owes(1, 9, 6), owes(4, 3, amount-1), owes(5, 1, 4), owes(5, 9, 2)}},
		// Rounds that have nothing to do with one another; and what leads from one to the other stays.
		{slices.Concat(ring(3, 1, 2), ring(4, 3, 4)), 14, 2, nil},
		{slices.Concat(ring(3, 1, 2, 3, 4), ring(1, 16, 9), ring(amount, 7, 6, 5)), 14 + 3*amount, 3, nil},
		{slices.Concat(ring(3, 1, 2), ring(2, 5, 6), []api.Flow{owes(2, 5, 9)}), 10, 2, []api.Flow{owes(2, 5, 9)}},
		{slices.Concat(ring(2, 1, 2), ring(2, 3, 4), ring(2, 5, 6), ring(2, 7, 8), ring(2, 9, 10), ring(2, 11, 12), ring(2, 13, 14), ring(2, 15, 16)), 32, 8, nil},
		// One party in both; one debt in both, with enough of it, and too little.
		{slices.Concat(ring(3, 1, 2), ring(4, 1, 3)), 14, 2, nil},
		{[]api.Flow{owes(1, 2, 4), owes(2, 3, 2), owes(2, 4, 2), owes(3, 1, 2), owes(4, 1, 2)}, 12, 2, nil},
		{[]api.Flow{owes(1, 2, 9), owes(2, 3, 2), owes(2, 4, 3), owes(3, 1, 2), owes(4, 1, 3)}, 15, 2, []api.Flow{owes(1, 2, 4)}},
		{[]api.Flow{owes(1, 2, 3), owes(2, 3, 2), owes(2, 4, 2), owes(3, 1, 2), owes(4, 5, 2), owes(5, 1, 2)}, 11, 2, []api.Flow{owes(2, 3, 1), owes(3, 1, 1)}},
		// A short round that stands in the way of a longer one stays.
		{[]api.Flow{owes(1, 2, 1), owes(2, 1, 1), owes(2, 3, 1), owes(3, 4, 1), owes(4, 1, 1)}, 4, 1, []api.Flow{owes(2, 1, 1)}},
		// What an earlier round took comes back: 2 owes 3 as much as ever, and less; and a line of it that goes to 0 first has its debt again.
		{[]api.Flow{owes(1, 3, 5), owes(2, 1, 5), owes(2, 3, 5), owes(3, 2, 5)}, 15, 2, []api.Flow{owes(2, 3, 5)}},
		{[]api.Flow{owes(1, 3, 4), owes(2, 1, 3), owes(2, 3, 5), owes(3, 2, 5)}, 13, 2, []api.Flow{owes(1, 3, 1), owes(2, 3, 3)}},
		{[]api.Flow{owes(1, 3, 1), owes(2, 1, amount), owes(2, 3, amount), owes(3, 2, amount)}, 2*amount + 1, 2, []api.Flow{owes(2, 1, amount-1), owes(2, 3, 1)}},
	} {
		for _, currency := range []api.Currency{1, 6, 8} {
			others := sorted(lines(currency%8+1, c.debts...), lines((currency+1)%8+1, ring(7, 1, 2, 3)...))
			l := made(t, lines(currency, c.debts...), others)
			netted(t, fmt.Sprintf("%d, of the currency %d", i, currency), l, currency, c.gone, c.many, c.left...)
			// The other currency's same debts stayed, and go as ever.
			netted(t, fmt.Sprintf("%d, of the currency behind %d", i, currency), l, currency%8+1, c.gone, c.many, c.left...)
		}
	}
}

// P13.2: very many rounds, of a quota of just so many, and one less.
func TestManyRounds(t *testing.T) {
	debts := []api.Flow{owes(1, 4, 1<<12), owes(1, 5, 1<<16), owes(2, 4, 1<<16), owes(3, 7, 1<<15), owes(4, 3, 1<<15), owes(5, 8, 1<<17), owes(7, 1, 1<<15), owes(8, 2, 1<<19), owes(8, 4, 4)}
	left := []api.Flow{owes(1, 4, 1<<12), owes(1, 5, 1<<15), owes(2, 4, 1<<15), owes(5, 8, 1<<17-1<<15), owes(8, 2, 1<<19-1<<15), owes(8, 4, 4)}
	netted(t, "many", made(t, lines(6, debts...)), 6, 7<<15, 2052, left...)
}

// P13.2, P13.3: as many lines as may be, each of all that may be owed: all eight parties owe one another.
func TestNetAll(t *testing.T) {
	for _, n := range []int64{1, 3, amount} {
		var debts []api.Flow
		for _, a := range all()[:8] {
			for _, b := range all()[:8] {
				if a != b {
					debts = append(debts, owes(a, b, n))
				}
			}
		}
		was := append(lines(2, debts...), lines(3, ring(n, all()[:8]...)...)...)
		for i := range was {
			was[i].Limit = was[i].Debt
		}
		if len(was) != api.MaxLines {
			t.Fatalf("%d lines", len(was))
		}
		l := made(t, was)
		gone, many, e := nettings.Net(l, 2, most)
		if gone != 56*n || many < 8 || many > 28*min(n, 2) || e != api.OK {
			t.Errorf("of %d each: %d, %d, %v", n, gone, many, e)
		}
		holds(t, "all", l, all(), settled(sorted(was), 2, nil))
		netted(t, "all", made(t, was), 2, gone, many)
	}
}

// P13.2, R5: a copy stays; a round that comes about later goes then; what is netted may be owed again, up to the limit that stays.
func TestNetBehind(t *testing.T) {
	l := made(t, lines(6, owes(1, 2, 5), owes(2, 1, 3), owes(2, 3, 4)))
	was, other := l.Lines(), l.Copy()
	netted(t, "first", l, 6, 6, 1, owes(1, 2, 2), owes(2, 3, 4))
	holds(t, "the copy", other, all(), was)
	l.Trust(1, 3, 6, 9)
	l.Push(3, 1, 6, 1)
	owed(t, "later", l, 6, owes(1, 2, 2), owes(2, 3, 4), owes(3, 1, 1))
	netted(t, "later", l, 6, 3, 1, owes(1, 2, 1), owes(2, 3, 3))
	holds(t, "the copy", other, all(), was)
	line, there := l.Line(1, 2, 6)
	if !there || line.Debt != 0 || line.Limit < 3 {
		t.Fatalf("the line is %v, %v", line, there)
	}
	if e := l.Push(2, 1, 6, 2+line.Limit); e != api.ErrRoute {
		t.Fatalf("Push of one more: %v", e)
	}
	if e := l.Push(2, 1, 6, 1+line.Limit); e != api.OK {
		t.Fatalf("Push of all: %v", e)
	}
	owed(t, "again", l, 6, owes(2, 1, line.Limit), owes(2, 3, 3))
}

// P13.1, P13.2: each number that a currency could have.
func TestEachCurrency(t *testing.T) {
	debts := func(c int) []api.Flow { return ring(int64(c)+1, 1, 2) }
	var was []api.Line
	for c := 1; c <= 8; c++ {
		was = append(was, lines(api.Currency(c), debts(c)...)...)
	}
	l := made(t, was)
	for c := range 256 {
		if 1 <= c && c <= 8 {
			owed(t, "each", l, api.Currency(c), debts(c)...)
			continue
		}
		owed(t, "each", l, api.Currency(c))
		for _, quota := range []int64{least, -1, 0, 1, 5, most} {
			refused(t, "each", l, api.Currency(c), quota, api.ErrArg)
		}
	}
	for c := 1; c <= 8; c++ {
		netted(t, "each", l, api.Currency(c), 2*int64(c)+2, 1)
	}
}

// P13.2: a quota below 0 is refused, with a round and without; one that is not enough, too, and nothing changes, not even for the rounds that would be allowed.
func TestQuota(t *testing.T) {
	several := slices.Concat(ring(3, 1, 2), ring(4, 3, 4), ring(5, 5, 6, 7), ring(6, 8, 9))
	for i, c := range []struct {
		debts []api.Flow
		many  int64
	}{{nil, 0}, {[]api.Flow{owes(1, 2, 5)}, 0}, {ring(5, 1, 2), 1}, {ring(1, 1, 2, 3), 1}, {several, 4}} {
		what := fmt.Sprint(i)
		l := made(t, lines(6, c.debts...), lines(7, ring(5, 1, 2)...))
		was := l.Lines()
		for _, quota := range []int64{-1, -2, -c.many, -c.many - 1, -amount, least + 1, least} {
			if quota < 0 {
				refused(t, what, l, 6, quota, api.ErrArg)
			}
		}
		for quota := range c.many + 3 {
			if quota < c.many {
				refused(t, what, l, 6, quota, api.ErrQuota)
				continue
			}
			after := settled(was, 6, c.debts)
			if c.many > 0 {
				after = settled(was, 6, nil)
			}
			goes(t, what, l.Copy(), 6, quota, l.Total(6)-total(after, 6), c.many, after)
		}
	}
}

// total of what is owed of a currency.
func total(l []api.Line, c api.Currency) (sum int64) {
	for _, x := range l {
		if x.Currency == c {
			sum += x.Debt
		}
	}
	return sum
}

// R1, R2, R3: without a ledger, or with one that no call made, nothing is owed, and ErrNil comes ahead of all else; a ledger that was made, and has nothing, is one.
func TestNothing(t *testing.T) {
	tried := new(ledgers.Ledger)
	tried.Open(1)
	tried.Open(2)
	tried.Trust(1, 2, 1, 10)
	tried.Push(2, 1, 1, 5)
	none, _ := ledgers.Of([]api.Party{1, 1}, nil)
	empty, _ := ledgers.Of(nil, nil)
	for i, x := range []struct {
		l     *ledgers.Ledger
		there bool
	}{{nil, false}, {&ledgers.Ledger{}, false}, {tried, false}, {none, false}, {tried.Copy(), false}, {ledgers.New(), true}, {empty, true}, {empty.Copy(), true}} {
		for _, c := range []api.Currency{0, 1, 2, 6, 8, 9, 17, 255} {
			owed(t, fmt.Sprint(i), x.l, c)
			for _, quota := range []int64{least, -amount, -1, 0, 1, amount, most} {
				switch {
				case !x.there:
					refused(t, fmt.Sprint(i), x.l, c, quota, api.ErrNil)
				case c < 1 || c > 8 || quota < 0:
					refused(t, fmt.Sprint(i), x.l, c, quota, api.ErrArg)
				default:
					goes(t, fmt.Sprint(i), x.l, c, quota, 0, 0, nil)
				}
			}
		}
	}
}
