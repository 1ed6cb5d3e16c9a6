package nettings_test

import (
	"cmp"
	"fmt"
	"slices"
	"testing"

	"countinghouse/api"
	"countinghouse/ledgers"
	"countinghouse/nettings"
	"countinghouse/rounds"
)

// dice throws the same numbers in each run.
type dice uint64

func (d *dice) below(n int) int {
	*d = *d*6364136223846793005 + 1442695040888963407
	return int(*d >> 33 % dice(n))
}

// upTo is from 0 to a number that is allowed itself.
func (d *dice) upTo(high int64) int64 {
	return (int64(d.below(1<<30))<<20 + int64(d.below(1<<20))) % (high + 1)
}

// some parties, in any order.
func (d *dice) some(n int) []api.Party {
	l := all()
	for i := range l {
		j := i + d.below(len(l)-i)
		l[i], l[j] = l[j], l[i]
	}
	return l[:n]
}

// debts between these parties, of a hundred pairs so many, each from 0 up to so much; so many lines at most.
func (d *dice) debts(parties []api.Party, dense int, high int64, room int) (l []api.Flow) {
	for _, a := range parties {
		for _, b := range parties {
			if a != b && len(l) < room && d.below(100) < dense {
				l = append(l, owes(a, b, d.upTo(high)))
			}
		}
	}
	return l
}

// lent is a list of lines of these debts, with any limits that may be.
func (d *dice) lent(c api.Currency, debts []api.Flow) []api.Line {
	l := lines(c, debts...)
	for i, x := range l {
		l[i].Limit = x.Debt + d.upTo(min(9, amount-x.Debt))
		if d.below(9) == 0 {
			l[i].Limit = amount
		}
		l[i].Limit = max(1, l[i].Limit)
	}
	return l
}

// byEnds are debts as they must stand, without those of which nothing is owed.
func byEnds(debts []api.Flow) []api.Flow {
	l := slices.DeleteFunc(slices.Clone(debts), func(x api.Flow) bool { return x.N == 0 })
	slices.SortFunc(l, func(a, b api.Flow) int {
		return cmp.Compare(int(a.From)*100+int(a.To), int(b.From)*100+int(b.To))
	})
	return l
}

// stands is all parties' positions, in all currencies.
func stands(l *ledgers.Ledger) (m [9][17]int64) {
	for c := range m {
		for p := range m[c] {
			m[c][p] = l.Position(api.Party(p), api.Currency(c))
		}
	}
	return m
}

// better: could less be owed of a currency, round any way of debts, or by taking less elsewhere? It is so, if a way back to where it began costs less than 0.
func better(was, is []api.Line, c api.Currency) bool {
	const far = 1000
	var m [17][17]int
	for a := range m {
		for b := range m {
			m[a][b] = far
		}
	}
	for i, x := range is {
		if x.Currency == c && x.Debt > 0 {
			m[x.Debtor][x.Creditor] = -1
		}
		if x.Currency == c && x.Debt < was[i].Debt {
			m[x.Creditor][x.Debtor] = min(m[x.Creditor][x.Debtor], 1)
		}
	}
	for over := range m {
		for a := range m {
			for b := range m {
				m[a][b] = max(-far, min(m[a][b], m[a][over]+m[over][b]))
			}
		}
	}
	return slices.ContainsFunc(all(), func(p api.Party) bool { return m[p][p] < 0 })
}

// follows: no debt is more than in the lines that were, no limit another one, no line goes, other currencies stay, and so much less is owed: the least there is.
func follows(t *testing.T, what string, was []api.Line, l *ledgers.Ledger, c api.Currency, gone int64) {
	t.Helper()
	is := l.Lines()
	if len(is) != len(was) {
		t.Fatalf("%s: %d lines, not %d", what, len(is), len(was))
	}
	for i, x := range is {
		y := was[i]
		if x.Currency == c && 0 <= x.Debt && x.Debt <= y.Debt {
			y.Debt = x.Debt
		}
		if x != y {
			t.Fatalf("%s: the line %v was %v", what, x, was[i])
		}
	}
	if less := total(was, c) - total(is, c); less != gone || less < 0 || l.Total(c) != total(is, c) {
		t.Fatalf("%s: %d less is owed, not %d", what, less, gone)
	}
	if better(was, is, c) {
		t.Fatalf("%s: less than %v could be owed of %v", what, is, was)
	}
}

// smallest of all that may be owed, together, instead of these debts, so that the parties stand so: by trying each number of each debt.
func smallest(debts []api.Flow, need [17]int64) int64 {
	if len(debts) == 0 {
		if need == [17]int64{} {
			return 0
		}
		return most
	}
	best, x := most, debts[0]
	for n := range x.N + 1 {
		then := need
		then[x.From] += n
		then[x.To] -= n
		if got := smallest(debts[1:], then); got < most {
			best = min(best, n+got)
		}
	}
	return best
}

// P13.3: of a few parties who owe little, what is owed then is the least of every way of owing it.
func TestWalkOfSmallest(t *testing.T) {
	less, stays := 0, 0
	for seed := range 1500 {
		d := dice(seed)
		debts := d.debts(d.some(3+d.below(3)), 30+d.below(60), 3, 7)
		c := api.Currency(1 + d.below(8))
		l := made(t, d.lent(c, debts), d.lent(c%8+1, debts))
		before := l.Total(c)
		want := smallest(debts, stands(l)[c])
		gone, many, e := nettings.Net(l, c, before)
		if gone != before-want || l.Total(c) != want || e != api.OK {
			t.Fatalf("walk %d: Net of %v: %d, %d, %v; but %d is the least", seed, debts, gone, many, e, want)
		}
		if (many > 0) != (gone > 0) {
			t.Fatalf("walk %d: Net of %v: %d, but %d rounds", seed, debts, gone, many)
		}
		if gone > 0 {
			less++
		} else {
			stays++
		}
	}
	if less < 400 || stays < 200 {
		t.Errorf("%d times less, %d times all was owed still", less, stays)
	}
}

// P13.1 to P13.3: whatever is owed, of several currencies: what is left of the debts, and how many rounds went, as rounds has it.
func TestWalk(t *testing.T) {
	counts, wholly, partly, not := map[int64]int{}, 0, 0, 0
	for seed := range 1500 {
		d := dice(seed)
		parties, high := d.some(2+d.below(9)), []int64{1, 2, 5, 30, amount}[d.below(5)]
		c := api.Currency(1 + d.below(8))
		debts := d.debts(parties, 10+d.below(90), high, 40)
		others := d.debts(parties, 50, high, 12)
		l := made(t, d.lent(c, debts), d.lent(c%8+1, others), d.lent((c+4)%8+1, others))
		what := fmt.Sprint("walk ", seed)
		debts = byEnds(debts)
		owed(t, what, l, c, debts...)
		left, many, e := rounds.Least(debts, most)
		if e != api.OK {
			t.Fatalf("%s: Least(%v): %v", what, debts, e)
		}
		gone := int64(0)
		for _, x := range debts {
			gone += x.N
			switch {
			case slices.Contains(left, x):
				not++
			case slices.ContainsFunc(left, func(y api.Flow) bool { return y.From == x.From && y.To == x.To }):
				partly++
			default:
				wholly++
			}
		}
		for _, x := range left {
			gone -= x.N
		}
		netted(t, what, l, c, gone, many, left...)
		owed(t, what, l, c%8+1, byEnds(others)...)
		counts[min(many, 5)]++
	}
	for many := range int64(6) {
		if counts[many] < 50 {
			t.Errorf("%d rounds went %d times only", many, counts[many])
		}
	}
	if wholly < 500 || partly < 500 || not < 500 {
		t.Errorf("%d debts went wholly, %d in part, %d not at all", wholly, partly, not)
	}
}

// P13.1, P13.2: whatever is asked of a ledger, one behind the other, while lines come and go, and more is owed.
func TestWalkOfCalls(t *testing.T) {
	came := map[api.Errno]int{}
	for seed := range 200 {
		d := dice(seed)
		l := made(t, d.lent(1, d.debts(d.some(5), 50, 9, 20)), d.lent(8, d.debts(d.some(5), 50, 9, 20)))
		for i := range 40 {
			a, b, c := api.Party(d.below(5)+1), api.Party(d.below(5)+1), []api.Currency{0, 1, 1, 2, 8, 8, 9}[d.below(7)]
			switch d.below(3) {
			case 0:
				l.Trust(a, b, c, d.upTo(12))
			case 1:
				l.Push(a, b, c, 1+d.upTo(8))
			default:
				what := fmt.Sprintf("walk %d, step %d", seed, i)
				came[asked(t, what, l, c, []int64{least, -1, 0, 1, 2, 3, 99, most}[d.below(8)])]++
			}
		}
	}
	for _, e := range []api.Errno{api.OK, api.ErrArg, api.ErrQuota} {
		if came[e] < 100 {
			t.Errorf("%v came %d times only", e, came[e])
		}
	}
}

// asked for a netting, a ledger does, or refuses, what the promise says of its lines.
func asked(t *testing.T, what string, l *ledgers.Ledger, c api.Currency, quota int64) api.Errno {
	t.Helper()
	var debts []api.Flow
	was := l.Lines()
	for _, x := range was {
		if x.Currency == c {
			debts = append(debts, owes(x.Debtor, x.Creditor, x.Debt))
		}
	}
	debts = byEnds(debts)
	owed(t, what, l, c, debts...)
	left, many, e := rounds.Least(debts, quota)
	if c < 1 || c > 8 {
		e = api.ErrArg
	}
	if e != api.OK {
		refused(t, what, l, c, quota, e)
		return e
	}
	after := settled(was, c, left)
	goes(t, what, l, c, quota, total(was, c)-total(after, c), many, after)
	return e
}
