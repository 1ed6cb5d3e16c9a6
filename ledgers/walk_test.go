package ledgers_test

import (
	"fmt"
	"slices"
	"testing"

	"countinghouse/api"
	"countinghouse/ledgers"
)

// plain is a ledger as the document's words have it: each line that there could be has a place, with noughts while it is not there.
type plain struct {
	is          [256]bool
	limit, debt [api.MaxParties + 1][api.MaxParties + 1][api.MaxCurrencies + 1]int64 // of a creditor, a debtor, a currency
}

func (l *plain) parties() []api.Party {
	var all []api.Party
	for p, is := range l.is {
		if is {
			all = append(all, api.Party(p))
		}
	}
	return all
}

func (l *plain) lines() []api.Line {
	var all []api.Line
	for c := range api.Currency(api.MaxCurrencies + 1) {
		for a := range api.Party(api.MaxParties + 1) {
			for b := range api.Party(api.MaxParties + 1) {
				if l.limit[a][b][c] > 0 {
					all = append(all, of(a, b, c, l.limit[a][b][c], l.debt[a][b][c]))
				}
			}
		}
	}
	return all
}

func wrongEnds(a, b api.Party, c api.Currency) bool {
	return a == 0 || a > 16 || b == 0 || b > 16 || a == b || c == 0 || c > 8
}

func (l *plain) room(from, to api.Party, c api.Currency) int64 {
	if wrongEnds(from, to, c) || !l.is[from] || !l.is[to] {
		return 0
	}
	return l.debt[from][to][c] + l.limit[to][from][c] - l.debt[to][from][c]
}

func (l *plain) open(p api.Party) api.Errno {
	if p == 0 || p > 16 {
		return api.ErrArg
	}
	if l.is[p] {
		return api.ErrThere
	}
	l.is[p] = true
	return api.OK
}

func (l *plain) trust(a, b api.Party, c api.Currency, limit int64) api.Errno {
	if wrongEnds(a, b, c) || limit < 0 || limit > amount {
		return api.ErrArg
	}
	if !l.is[a] || !l.is[b] {
		return api.ErrNone
	}
	if limit < l.debt[a][b][c] {
		return api.ErrDebt
	}
	if l.limit[a][b][c] == 0 && limit > 0 && len(l.lines()) == 64 {
		return api.ErrFull
	}
	l.limit[a][b][c] = limit
	return api.OK
}

func (l *plain) push(from, to api.Party, c api.Currency, n int64) api.Errno {
	if n < 1 {
		return api.ErrArg
	}
	if n > l.room(from, to, c) {
		return api.ErrRoute
	}
	theirs, own := &l.debt[from][to][c], &l.debt[to][from][c]
	if n <= *theirs {
		*theirs -= n
		return api.OK
	}
	*own += n - *theirs
	*theirs = 0
	return api.OK
}

func (l *plain) forgive(a, b api.Party, c api.Currency, n int64) api.Errno {
	if n < 1 {
		return api.ErrArg
	}
	if wrongEnds(a, b, c) || l.limit[a][b][c] == 0 {
		return api.ErrNone
	}
	if n > l.debt[a][b][c] {
		return api.ErrDebt
	}
	l.debt[a][b][c] -= n
	return api.OK
}

// dice throws the same numbers in each run.
type dice uint64

func (d *dice) below(n int) int {
	*d = *d*6364136223846793005 + 1442695040888963407
	return int(*d >> 33 % dice(n))
}

func (d *dice) party() api.Party {
	if d.below(20) == 0 {
		return []api.Party{0, 17, 255, 16}[d.below(4)]
	}
	return api.Party(1 + d.below(5))
}

func (d *dice) currency() api.Currency {
	if d.below(20) == 0 {
		return []api.Currency{0, 9, 255, 8}[d.below(4)]
	}
	return api.Currency(1 + d.below(2))
}

// amount: mostly a small one; sometimes one at a bound, or beside it.
func (d *dice) amount(bound int64) int64 {
	switch d.below(8) {
	case 0:
		return bound
	case 1:
		return bound + 1
	case 2:
		return []int64{-1, 0, 1, amount, amount + 1, most, least}[d.below(7)]
	}
	return int64(d.below(30))
}

// step does one thing to both, and tells what it was and what they answered.
func step(d *dice, l *ledgers.Ledger, m *plain) (what string, got, want api.Errno) {
	a, b, c := d.party(), d.party(), d.currency()
	line, _ := l.Line(a, b, c)
	switch d.below(8) {
	case 0:
		return fmt.Sprint("Open ", a), l.Open(a), m.open(a)
	case 1, 2:
		n := d.amount(line.Debt)
		return fmt.Sprint("Trust ", a, b, c, n), l.Trust(a, b, c, n), m.trust(a, b, c, n)
	case 3:
		n := d.amount(line.Debt)
		return fmt.Sprint("Forgive ", a, b, c, n), l.Forgive(a, b, c, n), m.forgive(a, b, c, n)
	}
	n := d.amount(m.room(a, b, c))
	return fmt.Sprint("Push ", a, b, c, n), l.Push(a, b, c, n), m.push(a, b, c, n)
}

// sums holds positions and totals against the debts; all positions of a currency come to 0. (P3.6, P3.7)
func sums(t *testing.T, what string, l *ledgers.Ledger, m *plain) {
	t.Helper()
	for c := range api.Currency(10) {
		var all, total int64
		for p := range api.Party(18) {
			var want int64
			for _, x := range m.lines() {
				if x.Currency == c && x.Creditor == p {
					want += x.Debt
					total += x.Debt
				}
				if x.Currency == c && x.Debtor == p {
					want -= x.Debt
				}
			}
			got := l.Position(p, c)
			if got != want {
				t.Fatalf("%s: position of %d in %d: %d, not %d", what, p, c, got, want)
			}
			all += got
		}
		if all != 0 || l.Total(c) != total {
			t.Fatalf("%s: of %d positions come to %d, and the total is %d, not %d", what, c, all, l.Total(c), total)
		}
	}
}

// rooms holds each room, and each party that there is or is not, against the plain ledger's.
func rooms(t *testing.T, what string, l *ledgers.Ledger, m *plain) {
	t.Helper()
	for a := range api.Party(18) {
		if l.Has(a) != m.is[a] {
			t.Fatalf("%s: Has(%d): %v", what, a, l.Has(a))
		}
		for b := range api.Party(18) {
			for c := range api.Currency(10) {
				if got, want := l.Room(a, b, c), m.room(a, b, c); got != want {
					t.Fatalf("%s: Room(%d, %d, %d): %d, not %d", what, a, b, c, got, want)
				}
			}
		}
	}
}

// crowded are both kinds of a ledger that soon has MaxLines.
func crowded(t *testing.T) (*ledgers.Ledger, *plain) {
	t.Helper()
	parties, lines := full()
	m := &plain{}
	for _, p := range parties {
		m.is[p] = true
	}
	for _, x := range lines[:50] {
		m.limit[x.Creditor][x.Debtor][x.Currency] = x.Limit
		m.debt[x.Creditor][x.Debtor][x.Currency] = x.Debt
	}
	return made(t, parties, lines[:50]...), m
}

// P3.1 to P3.7: whatever comes, a ledger is what the plain one is, and what it tells makes the same one.
func TestWalk(t *testing.T) {
	seen := map[api.Errno]int{}
	for seed := range 30 {
		d := dice(seed)
		l, m := ledgers.New(), &plain{}
		if seed%2 == 1 {
			l, m = crowded(t)
		}
		for i := range 400 {
			what, got, want := step(&d, l, m)
			what = fmt.Sprintf("walk %d, step %d: %s", seed, i, what)
			if got != want {
				t.Fatalf("%s: %v, not %v", what, got, want)
			}
			seen[got]++
			holds(t, what, l, m.parties(), m.lines())
			if i%20 == 0 {
				sums(t, what, l, m)
				rooms(t, what, l, m)
				holds(t, what+", made anew", made(t, l.Parties(), l.Lines()...), m.parties(), m.lines())
				l = l.Copy()
			}
		}
	}
	for _, e := range []api.Errno{api.OK, api.ErrArg, api.ErrNone, api.ErrThere, api.ErrFull, api.ErrRoute, api.ErrDebt} {
		if seen[e] < 50 {
			t.Errorf("%v came %d times only", e, seen[e])
		}
	}
}

// P3.7: a push moves n of one's position to the other one's, and nobody else's, and there is as much more room back.
// Pushed back, all is as it was, but where both owe one another.
func TestPushBack(t *testing.T) {
	there := numbered(4)
	kept := []api.Line{of(1, 3, 1, 9, 4), of(3, 2, 1, 9, 4), of(4, 1, 1, 9, 4), of(1, 2, 2, 9, 4)}
	for _, theirs := range []int64{0, 1, 5, 8} {
		for _, own := range []int64{0, 1, 4, 6} {
			lines := sorted(append(slices.Clone(kept), of(1, 2, 1, 8, theirs), of(2, 1, 1, 6, own)))
			most := made(t, there, lines...).Room(1, 2, 1)
			if most != theirs+6-own {
				t.Fatalf("room %d, where %d and %d are owed", most, theirs, own)
			}
			for n := int64(1); n <= most; n++ {
				pushBack(t, there, lines, n, theirs > 0 && own > 0)
			}
		}
	}
}

func pushBack(t *testing.T, there []api.Party, lines []api.Line, n int64, both bool) {
	t.Helper()
	was, l := made(t, there, lines...), made(t, there, lines...)
	if e := l.Push(1, 2, 1, n); e != api.OK {
		t.Fatalf("Push of %d: %v", n, e)
	}
	moved := [5]int64{1: -n, 2: n}
	for p, by := range moved {
		if got := l.Position(api.Party(p), 1) - was.Position(api.Party(p), 1); got != by {
			t.Fatalf("Push of %d: the position of %d moves by %d", n, p, got)
		}
		if l.Position(api.Party(p), 2) != was.Position(api.Party(p), 2) {
			t.Fatalf("Push of %d: another currency's position of %d moves", n, p)
		}
	}
	if back := l.Room(2, 1, 1) - was.Room(2, 1, 1); back != n || was.Room(1, 2, 1)-l.Room(1, 2, 1) != n {
		t.Fatalf("Push of %d: there is %d more room back", n, back)
	}
	if e := l.Push(2, 1, 1, n); e != api.OK {
		t.Fatalf("Push of %d back: %v", n, e)
	}
	if !both {
		holds(t, fmt.Sprintf("%d pushed back", n), l, there, lines)
	}
	for p := range moved {
		if l.Position(api.Party(p), 1) != was.Position(api.Party(p), 1) {
			t.Fatalf("%d pushed back: the position of %d is another one", n, p)
		}
	}
}
