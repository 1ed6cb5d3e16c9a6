package ledgers_test

import (
	"fmt"
	"math"
	"slices"
	"testing"

	"countinghouse/api"
	"countinghouse/ledgers"
)

const (
	amount = api.MaxAmount
	most   = math.MaxInt64
	least  = math.MinInt64
)

// of is a line, as the document's lists have it: creditor, debtor, currency, limit, debt.
func of(creditor, debtor api.Party, c api.Currency, limit, debt int64) api.Line {
	return api.Line{Creditor: creditor, Debtor: debtor, Currency: c, Limit: limit, Debt: debt}
}

// numbered are the parties from 1 on.
func numbered(many int) []api.Party {
	var l []api.Party
	for p := range many {
		l = append(l, api.Party(p+1))
	}
	return l
}

func made(t *testing.T, parties []api.Party, lines ...api.Line) *ledgers.Ledger {
	t.Helper()
	l, e := ledgers.Of(parties, lines)
	if e != api.OK || l == nil {
		t.Fatalf("Of(%v, %v): %v", parties, lines, e)
	}
	return l
}

// holds asks whether a ledger has just these.
func holds(t *testing.T, what string, l *ledgers.Ledger, parties []api.Party, lines []api.Line) {
	t.Helper()
	if got := l.Parties(); !slices.Equal(got, parties) {
		t.Fatalf("%s: parties %v, not %v", what, got, parties)
	}
	if got := l.Lines(); !slices.Equal(got, lines) {
		t.Fatalf("%s: lines %v, not %v", what, got, lines)
	}
}

// answers holds an error against what it should be, and the ledger against what it was, where there is one.
func answers(t *testing.T, what string, l *ledgers.Ledger, call func() api.Errno, want api.Errno) {
	t.Helper()
	parties, lines := l.Parties(), l.Lines()
	if got := call(); got != want {
		t.Fatalf("%s: %v, not %v", what, got, want)
	}
	if want != api.OK {
		holds(t, what, l, parties, lines)
	}
}

// full are parties, and MaxLines lines of theirs, in order: some of the first currency, some of the last one.
func full() ([]api.Party, []api.Line) {
	var lines []api.Line
	for _, c := range []api.Currency{1, api.MaxCurrencies} {
		for i := range api.Party(api.MaxLines / 2) {
			lines = append(lines, of(1+i/8, 9+i%8, c, int64(i)+1, int64(i)/2))
		}
	}
	return numbered(api.MaxParties), lines
}

// The document's examples, one behind the other.
func TestExamples(t *testing.T) {
	l := ledgers.New()
	for _, p := range numbered(3) {
		answers(t, "Open", l, func() api.Errno { return l.Open(p) }, api.OK)
	}
	trust := func(a, b api.Party, limit int64, want api.Errno) {
		t.Helper()
		answers(t, "Trust", l, func() api.Errno { return l.Trust(a, b, 7, limit) }, want)
	}
	push := func(a, b api.Party, n int64, want api.Errno) {
		t.Helper()
		answers(t, "Push", l, func() api.Errno { return l.Push(a, b, 7, n) }, want)
	}
	is := func(what string, got, want int64) {
		t.Helper()
		if got != want {
			t.Fatalf("%s: %d, not %d", what, got, want)
		}
	}
	trust(1, 2, 100, api.OK)
	is("room of 2 to 1", l.Room(2, 1, 7), 100)
	is("room of 1 to 2", l.Room(1, 2, 7), 0)
	push(2, 1, 60, api.OK)
	holds(t, "pushed", l, numbered(3), []api.Line{of(1, 2, 7, 100, 60)})
	is("room of 1 to 2", l.Room(1, 2, 7), 60)
	is("room of 2 to 1", l.Room(2, 1, 7), 40)
	is("position of 1", l.Position(1, 7), 60)
	is("position of 2", l.Position(2, 7), -60)
	is("position of 3", l.Position(3, 7), 0)
	trust(1, 2, 59, api.ErrDebt)
	trust(2, 1, 10, api.OK)
	is("room of 1 to 2", l.Room(1, 2, 7), 70)
	push(1, 2, 65, api.OK)
	holds(t, "turned", l, numbered(3), []api.Line{of(1, 2, 7, 100, 0), of(2, 1, 7, 10, 5)})
	is("total", l.Total(7), 5)
	push(1, 2, 6, api.ErrRoute)
}

// P3.1: New has nothing, and takes what comes; two are not the same.
func TestNew(t *testing.T) {
	a, b := ledgers.New(), ledgers.New()
	if a == nil || b == nil {
		t.Fatal("no ledger")
	}
	holds(t, "New", a, nil, nil)
	answers(t, "Open", a, func() api.Errno { return a.Open(3) }, api.OK)
	answers(t, "Open", a, func() api.Errno { return a.Open(1) }, api.OK)
	answers(t, "Trust", a, func() api.Errno { return a.Trust(3, 1, 2, 5) }, api.OK)
	holds(t, "used", a, []api.Party{1, 3}, []api.Line{of(3, 1, 2, 5, 0)})
	holds(t, "the other one", b, nil, nil)
}

// P3.1: what Of takes, it tells.
func TestOfTakes(t *testing.T) {
	some := numbered(api.MaxParties)
	parties, lines := full()
	for i, c := range []struct {
		parties []api.Party
		lines   []api.Line
	}{
		{nil, nil},
		{[]api.Party{1}, nil},
		{[]api.Party{16}, []api.Line{}},
		{[]api.Party{2, 5, 16}, nil},
		{some, nil},
		{[]api.Party{1, 16}, []api.Line{of(1, 16, 1, 1, 0)}},
		{[]api.Party{1, 16}, []api.Line{of(1, 16, 8, amount, amount), of(16, 1, 8, amount, 0)}},
		{[]api.Party{2, 3}, []api.Line{of(2, 3, 1, 1, 1)}},
		// Two owe one another.
		{[]api.Party{2, 3}, []api.Line{of(2, 3, 1, 7, 5), of(3, 2, 1, 9, 5)}},
		// Each place of the order counts in its turn, whatever those behind it say.
		{some, []api.Line{of(9, 8, 1, 1, 0), of(1, 2, 2, 1, 0)}},
		{some, []api.Line{of(1, 9, 4, 1, 0), of(2, 1, 4, 1, 0)}},
		{some, []api.Line{of(5, 3, 4, 2, 2), of(5, 4, 4, 1, 0)}},
		{parties, lines},
	} {
		holds(t, fmt.Sprint(i), made(t, c.parties, c.lines...), c.parties, c.lines)
	}
}

// P3.1: what Of refuses; with an error there is no ledger.
func TestOfRefuses(t *testing.T) {
	some := []api.Party{1, 2, 3, 15, 16}
	all, lines := full()
	more := append(slices.Clone(lines), of(15, 16, api.MaxCurrencies, 1, 0))
	one := func(x api.Line) []api.Line { return []api.Line{x} }
	for i, c := range []struct {
		parties []api.Party
		lines   []api.Line
		want    api.Errno
	}{
		{[]api.Party{0}, nil, api.ErrArg},
		{[]api.Party{0, 1}, nil, api.ErrArg},
		{[]api.Party{17}, nil, api.ErrArg},
		{[]api.Party{1, 2, 17}, nil, api.ErrArg},
		{[]api.Party{255}, nil, api.ErrArg},
		{[]api.Party{1, 1}, nil, api.ErrArg},
		{[]api.Party{1, 16, 16}, nil, api.ErrArg},
		{[]api.Party{2, 1}, nil, api.ErrArg},
		{[]api.Party{1, 3, 2}, nil, api.ErrArg},
		{make([]api.Party, 1000), nil, api.ErrArg},
		{all, more, api.ErrFull},
		{nil, make([]api.Line, api.MaxLines+1), api.ErrFull},
		// The parties are named first, then how many lines there are.
		{[]api.Party{2, 1}, more, api.ErrArg},
		{all, append(one(of(0, 0, 0, 0, 0)), lines...), api.ErrFull},
		{all, make([]api.Line, api.MaxLines), api.ErrArg},
		{some, one(api.Line{}), api.ErrArg},
		{nil, one(of(1, 2, 1, 5, 0)), api.ErrArg},
		{some, one(of(0, 2, 1, 5, 0)), api.ErrArg},
		{some, one(of(2, 0, 1, 5, 0)), api.ErrArg},
		{some, one(of(17, 2, 1, 5, 0)), api.ErrArg},
		{some, one(of(2, 17, 1, 5, 0)), api.ErrArg},
		{some, one(of(255, 2, 1, 5, 0)), api.ErrArg},
		{some, one(of(2, 2, 1, 5, 0)), api.ErrArg},
		{some, one(of(4, 2, 1, 5, 0)), api.ErrArg},
		{some, one(of(2, 4, 1, 5, 0)), api.ErrArg},
		{some, one(of(1, 2, 0, 5, 0)), api.ErrArg},
		{some, one(of(1, 2, 9, 5, 0)), api.ErrArg},
		{some, one(of(1, 2, 255, 5, 0)), api.ErrArg},
		{some, one(of(1, 2, 1, 0, 0)), api.ErrArg},
		{some, one(of(1, 2, 1, -1, 0)), api.ErrArg},
		{some, one(of(1, 2, 1, -1, -1)), api.ErrArg},
		{some, one(of(1, 2, 1, least, least)), api.ErrArg},
		{some, one(of(1, 2, 1, amount+1, 0)), api.ErrArg},
		{some, one(of(1, 2, 1, amount+1, amount+1)), api.ErrArg},
		{some, one(of(1, 2, 1, most, 0)), api.ErrArg},
		{some, one(of(1, 2, 1, 5, -1)), api.ErrArg},
		{some, one(of(1, 2, 1, 5, 6)), api.ErrArg},
		{some, one(of(1, 2, 1, amount, amount+1)), api.ErrArg},
		{some, one(of(1, 2, 1, 5, least)), api.ErrArg},
		// Twice, with other amounts too; and out of order, by each of what it goes by.
		{some, []api.Line{of(1, 2, 1, 5, 0), of(1, 2, 1, 5, 0)}, api.ErrArg},
		{some, []api.Line{of(1, 2, 1, 5, 0), of(1, 2, 1, 6, 1)}, api.ErrArg},
		{some, []api.Line{of(1, 2, 2, 5, 0), of(2, 3, 1, 5, 0)}, api.ErrArg},
		{some, []api.Line{of(2, 1, 1, 5, 0), of(1, 3, 1, 5, 0)}, api.ErrArg},
		{some, []api.Line{of(1, 3, 1, 5, 0), of(1, 2, 1, 5, 0)}, api.ErrArg},
		{some, []api.Line{of(1, 2, 1, 5, 0), of(2, 1, 1, 5, 0), of(1, 2, 1, 5, 0)}, api.ErrArg},
		{some, []api.Line{of(1, 2, 1, 5, 0), of(2, 1, 1, 5, 0), of(1, 3, 1, 5, 0)}, api.ErrArg},
		// One that may not be, behind one that may.
		{some, []api.Line{of(1, 2, 1, 5, 0), of(2, 1, 1, 5, 6)}, api.ErrArg},
	} {
		if l, e := ledgers.Of(c.parties, c.lines); l != nil || e != c.want {
			t.Errorf("%d: Of(%v, %v): %v, %v, not %v", i, c.parties, c.lines, l, e, c.want)
		}
	}
}

// P3.2: each number there is.
func TestOpenHas(t *testing.T) {
	l := ledgers.New()
	var there []api.Party
	for n := 255; n >= 0; n-- {
		p := api.Party(n)
		if l.Has(p) {
			t.Fatalf("Has(%d), not opened yet", p)
		}
		if p < 1 || p > 16 {
			answers(t, "Open", l, func() api.Errno { return l.Open(p) }, api.ErrArg)
			if l.Has(p) {
				t.Fatalf("Has(%d)", p)
			}
			continue
		}
		there = slices.Insert(there, 0, p)
		answers(t, "Open", l, func() api.Errno { return l.Open(p) }, api.OK)
		holds(t, "opened", l, there, nil)
		if !l.Has(p) {
			t.Fatalf("not Has(%d)", p)
		}
		answers(t, "Open again", l, func() api.Errno { return l.Open(p) }, api.ErrThere)
	}
	l = made(t, []api.Party{2, 16})
	answers(t, "Open what Of took", l, func() api.Errno { return l.Open(16) }, api.ErrThere)
	if !l.Has(2) || !l.Has(16) || l.Has(1) || l.Has(15) {
		t.Errorf("Has, of %v", l.Parties())
	}
}

// P3.3: what Trust refuses, and of several errors which.
func TestTrustRefuses(t *testing.T) {
	l := made(t, []api.Party{1, 2, 16}, of(1, 2, 1, 50, 30), of(16, 1, 8, amount, amount))
	for _, c := range []struct {
		a, b  api.Party
		c     api.Currency
		limit int64
		want  api.Errno
	}{
		{0, 2, 1, 5, api.ErrArg},
		{1, 0, 1, 5, api.ErrArg},
		{17, 2, 1, 5, api.ErrArg},
		{1, 17, 1, 5, api.ErrArg},
		{255, 2, 1, 5, api.ErrArg},
		{1, 1, 1, 5, api.ErrArg},
		{1, 1, 1, 0, api.ErrArg},
		{3, 3, 1, 5, api.ErrArg},
		{1, 2, 0, 5, api.ErrArg},
		{1, 2, 9, 50, api.ErrArg},
		{1, 2, 255, 50, api.ErrArg},
		{1, 2, 1, -1, api.ErrArg},
		{1, 2, 1, least, api.ErrArg},
		{1, 2, 1, amount + 1, api.ErrArg},
		{1, 2, 1, most, api.ErrArg},
		// ErrArg is named ahead of ErrNone.
		{3, 2, 9, 5, api.ErrArg},
		{1, 3, 1, -1, api.ErrArg},
		{3, 2, 1, 5, api.ErrNone},
		{2, 3, 1, 5, api.ErrNone},
		{3, 15, 1, 5, api.ErrNone},
		{3, 2, 1, 0, api.ErrNone},
		{2, 3, 1, 0, api.ErrNone},
		{15, 16, 8, amount, api.ErrNone},
		{1, 2, 1, 29, api.ErrDebt},
		{1, 2, 1, 1, api.ErrDebt},
		{1, 2, 1, 0, api.ErrDebt},
		{16, 1, 8, amount - 1, api.ErrDebt},
		{16, 1, 8, 0, api.ErrDebt},
	} {
		what := fmt.Sprintf("Trust(%d, %d, %d, %d)", c.a, c.b, c.c, c.limit)
		answers(t, what, l, func() api.Errno { return l.Trust(c.a, c.b, c.c, c.limit) }, c.want)
	}
}

// P3.3: what Trust does: one behind the other, with the lines that are there then.
func TestTrust(t *testing.T) {
	there := []api.Party{1, 2, 16}
	l := made(t, there)
	for _, c := range []struct {
		a, b  api.Party
		c     api.Currency
		limit int64
		lines []api.Line
	}{
		{1, 2, 1, 0, nil},
		{1, 2, 1, 1, []api.Line{of(1, 2, 1, 1, 0)}},
		{1, 2, 1, amount, []api.Line{of(1, 2, 1, amount, 0)}},
		{2, 1, 1, 7, []api.Line{of(1, 2, 1, amount, 0), of(2, 1, 1, 7, 0)}},
		{1, 2, 1, 0, []api.Line{of(2, 1, 1, 7, 0)}},
		{1, 2, 1, 0, []api.Line{of(2, 1, 1, 7, 0)}},
		{16, 1, 8, amount, []api.Line{of(2, 1, 1, 7, 0), of(16, 1, 8, amount, 0)}},
		{1, 16, 8, 3, []api.Line{of(2, 1, 1, 7, 0), of(1, 16, 8, 3, 0), of(16, 1, 8, amount, 0)}},
		{16, 1, 8, 0, []api.Line{of(2, 1, 1, 7, 0), of(1, 16, 8, 3, 0)}},
		{2, 1, 8, 5, []api.Line{of(2, 1, 1, 7, 0), of(1, 16, 8, 3, 0), of(2, 1, 8, 5, 0)}},
		{2, 1, 1, 8, []api.Line{of(2, 1, 1, 8, 0), of(1, 16, 8, 3, 0), of(2, 1, 8, 5, 0)}},
	} {
		what := fmt.Sprintf("Trust(%d, %d, %d, %d)", c.a, c.b, c.c, c.limit)
		answers(t, what, l, func() api.Errno { return l.Trust(c.a, c.b, c.c, c.limit) }, api.OK)
		holds(t, what, l, there, c.lines)
	}
}

// P3.3: the debt stays, whatever the limit becomes; where nothing is owed, the limit 0 takes the line away.
func TestTrustKeepsTheDebt(t *testing.T) {
	l := made(t, numbered(2), of(1, 2, 1, 50, 30))
	for _, limit := range []int64{30, 31, amount, 50} {
		answers(t, "Trust", l, func() api.Errno { return l.Trust(1, 2, 1, limit) }, api.OK)
		holds(t, "Trust", l, numbered(2), []api.Line{of(1, 2, 1, limit, 30)})
	}
	answers(t, "Forgive", l, func() api.Errno { return l.Forgive(1, 2, 1, 30) }, api.OK)
	holds(t, "forgiven", l, numbered(2), []api.Line{of(1, 2, 1, 50, 0)})
	answers(t, "Trust", l, func() api.Errno { return l.Trust(1, 2, 1, 0) }, api.OK)
	holds(t, "gone", l, numbered(2), nil)
	answers(t, "Forgive", l, func() api.Errno { return l.Forgive(1, 2, 1, 1) }, api.ErrNone)
}

// P3.3: MaxLines lines, and one more.
func TestTrustFull(t *testing.T) {
	parties, lines := full()
	l := ledgers.New()
	for _, p := range parties {
		answers(t, "Open", l, func() api.Errno { return l.Open(p) }, api.OK)
	}
	for _, x := range slices.Backward(lines) {
		answers(t, "Trust", l, func() api.Errno { return l.Trust(x.Creditor, x.Debtor, x.Currency, x.Limit) }, api.OK)
	}
	if len(l.Lines()) != api.MaxLines {
		t.Fatalf("%d lines", len(l.Lines()))
	}
	trust := func(a, b api.Party, c api.Currency, limit int64, want api.Errno) {
		t.Helper()
		answers(t, "Trust", l, func() api.Errno { return l.Trust(a, b, c, limit) }, want)
	}
	trust(1, 9, 2, 5, api.ErrFull)
	trust(9, 1, 1, amount, api.ErrFull)
	trust(9, 1, 9, 5, api.ErrArg)
	trust(9, 1, 1, 0, api.OK)
	trust(1, 9, 1, 6, api.OK)
	trust(1, 9, 1, 0, api.OK)
	trust(9, 1, 1, 1, api.OK)
	trust(1, 9, 1, 1, api.ErrFull)
	l = made(t, parties, lines...)
	trust(9, 1, 1, 1, api.ErrFull)
	l = made(t, parties, lines[:api.MaxLines-1]...)
	trust(9, 1, 1, 1, api.OK)
	trust(9, 2, 1, 1, api.ErrFull)
}

// P3.3: Line tells the one that there is of these ends, and no other one.
func TestLine(t *testing.T) {
	lines := []api.Line{of(1, 2, 1, 50, 30), of(2, 1, 1, 9, 0), of(1, 2, 7, amount, amount), of(16, 1, 8, 1, 1)}
	l := made(t, []api.Party{1, 2, 16}, lines...)
	for a := range 256 {
		for b := range 256 {
			for _, c := range []api.Currency{0, 1, 2, 7, 8, 9, 255} {
				got, is := l.Line(api.Party(a), api.Party(b), c)
				at := slices.IndexFunc(lines, func(x api.Line) bool {
					return int(x.Creditor) == a && int(x.Debtor) == b && x.Currency == c
				})
				if at < 0 && (is || got != api.Line{}) || at >= 0 && (!is || got != lines[at]) {
					t.Fatalf("Line(%d, %d, %d): %v, %v", a, b, c, got, is)
				}
			}
		}
	}
}

// P3.4: the room is of both lines between two, of that currency.
func TestRoom(t *testing.T) {
	l := made(t, []api.Party{1, 2, 3, 16},
		of(1, 2, 1, 50, 30), of(2, 1, 1, 9, 4), of(3, 1, 1, 8, 8),
		of(1, 3, 2, amount, 0), of(3, 1, 2, amount, amount),
		of(1, 16, 8, 1, 0))
	rooms := map[[3]int]int64{
		{1, 2, 1}: 30 + 5, {2, 1, 1}: 4 + 20,
		{3, 1, 1}: 8, {1, 3, 1}: 0,
		{1, 3, 2}: 0, {3, 1, 2}: 2 * amount,
		{16, 1, 8}: 1,
	}
	for a := range 256 {
		for b := range 256 {
			for _, c := range []int{0, 1, 2, 3, 8, 9, 255} {
				if got := l.Room(api.Party(a), api.Party(b), api.Currency(c)); got != rooms[[3]int{a, b, c}] {
					t.Fatalf("Room(%d, %d, %d): %d, not %d", a, b, c, got, rooms[[3]int{a, b, c}])
				}
			}
		}
	}
}

// P3.4: what Push refuses, and of several errors which.
func TestPushRefuses(t *testing.T) {
	l := made(t, []api.Party{1, 2, 16}, of(1, 2, 1, 50, 30), of(2, 1, 1, 9, 4), of(1, 16, 8, amount, 0), of(16, 1, 8, amount, amount))
	for _, c := range []struct {
		from, to api.Party
		c        api.Currency
		n        int64
		want     api.Errno
	}{
		{1, 2, 1, 0, api.ErrArg},
		{1, 2, 1, -1, api.ErrArg},
		{1, 2, 1, least, api.ErrArg},
		// ErrArg is named ahead of ErrRoute.
		{1, 1, 1, 0, api.ErrArg},
		{0, 17, 9, -1, api.ErrArg},
		{1, 2, 1, 36, api.ErrRoute},
		{2, 1, 1, 25, api.ErrRoute},
		{1, 2, 1, most, api.ErrRoute},
		{16, 1, 8, 2*amount + 1, api.ErrRoute},
		{1, 16, 8, 1, api.ErrRoute},
		{1, 1, 1, 1, api.ErrRoute},
		{1, 2, 2, 1, api.ErrRoute},
		{1, 2, 0, 1, api.ErrRoute},
		{1, 2, 9, 1, api.ErrRoute},
		{1, 16, 1, 1, api.ErrRoute},
		{1, 3, 1, 1, api.ErrRoute},
		{3, 1, 1, 1, api.ErrRoute},
		{3, 3, 1, 1, api.ErrRoute},
		{0, 1, 1, 1, api.ErrRoute},
		{1, 0, 1, 1, api.ErrRoute},
		{17, 1, 1, 1, api.ErrRoute},
		{1, 255, 1, 1, api.ErrRoute},
	} {
		what := fmt.Sprintf("Push(%d, %d, %d, %d)", c.from, c.to, c.c, c.n)
		answers(t, what, l, func() api.Errno { return l.Push(c.from, c.to, c.c, c.n) }, c.want)
	}
}

// P3.4: what the other one owes falls first, and what is left is owed to it; no other line hears of it.
func TestPush(t *testing.T) {
	beside := []api.Line{of(1, 3, 1, 20, 7), of(3, 2, 1, 20, 7), of(1, 2, 2, 20, 7), of(2, 1, 2, 20, 7)}
	for _, c := range []struct {
		theirs, own api.Line // of 1 and 2: what 2 owes 1, and what 1 owes 2
		n           int64
		left, owed  int64
	}{
		{of(1, 2, 1, 50, 30), of(2, 1, 1, 9, 0), 1, 29, 0},
		{of(1, 2, 1, 50, 30), of(2, 1, 1, 9, 0), 29, 1, 0},
		{of(1, 2, 1, 50, 30), of(2, 1, 1, 9, 0), 30, 0, 0},
		{of(1, 2, 1, 50, 30), of(2, 1, 1, 9, 0), 31, 0, 1},
		{of(1, 2, 1, 50, 30), of(2, 1, 1, 9, 0), 39, 0, 9},
		{of(1, 2, 1, 50, 30), of(2, 1, 1, 9, 4), 7, 23, 4},
		{of(1, 2, 1, 50, 30), of(2, 1, 1, 9, 4), 30, 0, 4},
		{of(1, 2, 1, 50, 30), of(2, 1, 1, 9, 4), 35, 0, 9},
		{of(1, 2, 1, 50, 0), of(2, 1, 1, 9, 4), 1, 0, 5},
		{of(1, 2, 1, 50, 0), of(2, 1, 1, 9, 0), 9, 0, 9},
		{of(1, 2, 1, 1, 1), of(2, 1, 1, 1, 0), 2, 0, 1},
		{of(1, 2, 1, amount, amount), of(2, 1, 1, amount, 0), 1, amount - 1, 0},
		{of(1, 2, 1, amount, amount), of(2, 1, 1, amount, 0), amount, 0, 0},
		{of(1, 2, 1, amount, amount), of(2, 1, 1, amount, 0), 2 * amount, 0, amount},
	} {
		l := made(t, numbered(3), sorted(append(beside, c.theirs, c.own))...)
		answers(t, "Push", l, func() api.Errno { return l.Push(1, 2, 1, c.n) }, api.OK)
		c.theirs.Debt, c.own.Debt = c.left, c.owed
		holds(t, fmt.Sprintf("Push of %d", c.n), l, numbered(3), sorted(append(beside, c.theirs, c.own)))
	}
}

// P3.4: where there is a line one way alone, no other one comes of a push.
func TestPushOnOneLine(t *testing.T) {
	l := made(t, []api.Party{1, 16}, of(1, 16, 8, 5, 5))
	answers(t, "Push more than is owed", l, func() api.Errno { return l.Push(1, 16, 8, 6) }, api.ErrRoute)
	answers(t, "Push what is owed", l, func() api.Errno { return l.Push(1, 16, 8, 5) }, api.OK)
	holds(t, "paid", l, []api.Party{1, 16}, []api.Line{of(1, 16, 8, 5, 0)})
	answers(t, "Push nothing of that way", l, func() api.Errno { return l.Push(1, 16, 8, 1) }, api.ErrRoute)
	answers(t, "Push to the limit", l, func() api.Errno { return l.Push(16, 1, 8, 5) }, api.OK)
	holds(t, "owed again", l, []api.Party{1, 16}, []api.Line{of(1, 16, 8, 5, 5)})
}

func sorted(lines []api.Line) []api.Line {
	lines = slices.Clone(lines)
	slices.SortFunc(lines, func(a, b api.Line) int {
		return slices.Compare([]int{int(a.Currency), int(a.Creditor), int(a.Debtor)}, []int{int(b.Currency), int(b.Creditor), int(b.Debtor)})
	})
	return lines
}

// P3.5: what is forgiven, and what may not be.
func TestForgive(t *testing.T) {
	there := []api.Party{1, 2, 16}
	l := made(t, there, of(1, 2, 1, 50, 30), of(2, 1, 1, 9, 4), of(16, 1, 8, amount, amount))
	forgive := func(a, b api.Party, c api.Currency, n int64, want api.Errno) {
		t.Helper()
		answers(t, fmt.Sprintf("Forgive(%d, %d, %d, %d)", a, b, c, n), l, func() api.Errno { return l.Forgive(a, b, c, n) }, want)
	}
	forgive(1, 2, 1, 0, api.ErrArg)
	forgive(1, 2, 1, -1, api.ErrArg)
	forgive(1, 2, 1, least, api.ErrArg)
	// ErrArg is named ahead of ErrNone.
	forgive(3, 2, 1, 0, api.ErrArg)
	forgive(0, 0, 0, -1, api.ErrArg)
	forgive(1, 2, 2, 1, api.ErrNone)
	forgive(1, 2, 0, 1, api.ErrNone)
	forgive(1, 2, 9, 1, api.ErrNone)
	forgive(1, 16, 8, 1, api.ErrNone)
	forgive(2, 16, 1, 1, api.ErrNone)
	forgive(1, 1, 1, 1, api.ErrNone)
	forgive(3, 1, 1, 1, api.ErrNone)
	forgive(0, 1, 1, 1, api.ErrNone)
	forgive(1, 17, 1, most, api.ErrNone)
	forgive(1, 2, 1, 31, api.ErrDebt)
	forgive(1, 2, 1, most, api.ErrDebt)
	forgive(16, 1, 8, amount+1, api.ErrDebt)
	forgive(1, 2, 1, 1, api.OK)
	holds(t, "one", l, there, []api.Line{of(1, 2, 1, 50, 29), of(2, 1, 1, 9, 4), of(16, 1, 8, amount, amount)})
	forgive(1, 2, 1, 29, api.OK)
	holds(t, "what is left", l, there, []api.Line{of(1, 2, 1, 50, 0), of(2, 1, 1, 9, 4), of(16, 1, 8, amount, amount)})
	forgive(1, 2, 1, 1, api.ErrDebt)
	forgive(16, 1, 8, amount, api.OK)
	holds(t, "all", l, there, []api.Line{of(1, 2, 1, 50, 0), of(2, 1, 1, 9, 4), of(16, 1, 8, amount, 0)})
}

// P3.6: what is owed to one, and by one, currency by currency.
func TestPositionTotal(t *testing.T) {
	l := made(t, []api.Party{1, 2, 3, 16},
		of(1, 2, 1, 50, 30), of(1, 3, 1, 50, 7), of(2, 1, 1, 9, 4), of(3, 2, 1, 5, 5), of(16, 3, 1, 6, 0),
		of(1, 16, 8, amount, amount), of(2, 16, 8, amount, amount), of(3, 16, 8, amount, amount-1))
	positions := map[[2]int]int64{
		{1, 1}: 30 + 7 - 4, {2, 1}: 4 - 30 - 5, {3, 1}: 5 - 7,
		{1, 8}: amount, {2, 8}: amount, {3, 8}: amount - 1, {16, 8}: 1 - 3*amount,
	}
	totals := map[int]int64{1: 30 + 7 + 4 + 5, 8: 3*amount - 1}
	for c := range 256 {
		for p := range 256 {
			if got := l.Position(api.Party(p), api.Currency(c)); got != positions[[2]int{p, c}] {
				t.Fatalf("Position(%d, %d): %d, not %d", p, c, got, positions[[2]int{p, c}])
			}
		}
		if got := l.Total(api.Currency(c)); got != totals[c] {
			t.Fatalf("Total(%d): %d, not %d", c, got, totals[c])
		}
	}
}

// P3.6: the greatest position, and the greatest total.
func TestPositionTotalOfAll(t *testing.T) {
	var lines []api.Line
	for p := range api.Party(15) {
		lines = append(lines, of(p+1, 16, 1, amount, amount))
	}
	l := made(t, numbered(16), lines...)
	if l.Position(16, 1) != -15*amount || l.Position(1, 1) != amount || l.Total(1) != 15*amount {
		t.Errorf("%d, %d, %d", l.Position(16, 1), l.Position(1, 1), l.Total(1))
	}
}

// P3.6: lines stand in order, however they came.
func TestLinesInOrder(t *testing.T) {
	l := made(t, numbered(16))
	var lines []api.Line
	for i := range api.MaxLines {
		// 797 shares no divisor with 16 times 16 times 8: none comes twice.
		at := i * 797 % (16 * 16 * 8)
		a, b, c := api.Party(1+at%16), api.Party(1+at/16%16), api.Currency(1+at/256)
		if a == b {
			continue
		}
		answers(t, "Trust", l, func() api.Errno { return l.Trust(a, b, c, int64(i)+1) }, api.OK)
		lines = append(lines, of(a, b, c, int64(i)+1, 0))
		holds(t, "Lines", l, numbered(16), sorted(lines))
	}
}

// alter does one thing of each kind to a ledger of 1, 2 and 16, in which 2 owes 1 30 of 50, and 1 owes 2 4 of 9.
func alter(t *testing.T, l *ledgers.Ledger) {
	t.Helper()
	answers(t, "Open", l, func() api.Errno { return l.Open(3) }, api.OK)
	answers(t, "Trust", l, func() api.Errno { return l.Trust(3, 1, 1, 6) }, api.OK)
	answers(t, "Push", l, func() api.Errno { return l.Push(1, 2, 1, 35) }, api.OK)
	answers(t, "Forgive", l, func() api.Errno { return l.Forgive(2, 1, 1, 2) }, api.OK)
	answers(t, "Trust", l, func() api.Errno { return l.Trust(1, 2, 1, 0) }, api.OK)
	holds(t, "altered", l, []api.Party{1, 2, 3, 16}, []api.Line{of(2, 1, 1, 9, 7), of(3, 1, 1, 6, 0)})
}

// P3.6: a copy has the same, and goes its own way; so does what it was made of. (R5)
func TestCopy(t *testing.T) {
	there := []api.Party{1, 2, 16}
	lines := []api.Line{of(1, 2, 1, 50, 30), of(2, 1, 1, 9, 4)}
	a := made(t, there, lines...)
	b, c := a.Copy(), a.Copy()
	if b == nil || b == a || b == c {
		t.Fatal("no other one")
	}
	for _, l := range []*ledgers.Ledger{b, a} {
		holds(t, "one that is not altered yet", l, there, lines)
		alter(t, l)
		holds(t, "one that stays", c, there, lines)
	}
	alter(t, c)
	d := ledgers.New().Copy()
	holds(t, "of nothing", d, nil, nil)
	answers(t, "Open", d, func() api.Errno { return d.Open(1) }, api.OK)
}

// R1: what is handed in stays as it is, and is not kept.
func TestOfLeavesWhatItIsGiven(t *testing.T) {
	parties, lines := []api.Party{1, 2, 16, 9}, []api.Line{of(1, 2, 1, 50, 30), of(2, 1, 1, 9, 4), of(16, 2, 1, 3, 0)}
	wasParties, wasLines := slices.Clone(parties), slices.Clone(lines)
	l := made(t, parties[:3], lines[:2]...)
	alter(t, l)
	if !slices.Equal(parties, wasParties) || !slices.Equal(lines, wasLines) {
		t.Fatalf("%v, %v", parties, lines)
	}
	l = made(t, parties[:3], lines[:2]...)
	clear(parties)
	clear(lines)
	holds(t, "what is written over", l, wasParties[:3], wasLines[:2])
}

// R4: what is told is memory of its own, with nothing in its room behind.
func TestToldIsItsOwn(t *testing.T) {
	parties, lines := full()
	for many := range len(lines) + 1 {
		l := made(t, parties, lines[:many]...)
		gotParties, gotLines := l.Parties(), l.Lines()
		if len(gotLines) != many || cap(gotLines) != many {
			t.Fatalf("%d lines in %d", len(gotLines), cap(gotLines))
		}
		clear(gotParties)
		clear(gotLines)
		holds(t, "what is written over", l, parties, lines[:many])
	}
	for many := range len(parties) + 1 {
		if got := made(t, parties[:many]).Parties(); len(got) != many || cap(got) != many {
			t.Fatalf("%d parties in %d", len(got), cap(got))
		}
	}
}

// R3: of no ledger, and of one that no call made, there is nothing, and it takes nothing: ErrNil is named ahead of all other errors.
func TestNothing(t *testing.T) {
	for _, l := range []*ledgers.Ledger{nil, {}, new(ledgers.Ledger)} {
		for _, p := range []api.Party{0, 1, 2, 16, 17, 255} {
			for _, n := range []int64{least, -1, 0, 1, amount, most} {
				for i, e := range []api.Errno{
					l.Open(p), l.Trust(p, 2, 1, n), l.Trust(2, p, 9, n),
					l.Push(p, 2, 1, n), l.Push(2, p, 9, n), l.Forgive(p, 2, 1, n), l.Forgive(2, p, 9, n),
				} {
					if e != api.ErrNil {
						t.Fatalf("%d, of %d and %d: %v", i, p, n, e)
					}
				}
			}
			x, is := l.Line(p, 2, 1)
			if is || x != (api.Line{}) || l.Has(p) || l.Room(p, 2, 1) != 0 || l.Room(2, p, 1) != 0 || l.Position(p, 1) != 0 {
				t.Fatalf("there is something of %d", p)
			}
		}
		if l.Total(1) != 0 || len(l.Parties()) != 0 || len(l.Lines()) != 0 || l.Copy() != nil {
			t.Fatal("there is something")
		}
	}
}
