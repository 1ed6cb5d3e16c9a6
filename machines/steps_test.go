package machines_test

import (
	"fmt"
	"slices"
	"testing"

	"countinghouse/api"
	"countinghouse/machines"
)

func stays(*state) {}

// owe sets what is owed on a line of a state.
func owe(s *state, c api.Currency, creditor, debtor api.Party, debt int64) {
	for i, x := range s.Lines {
		if x.Currency == c && x.Creditor == creditor && x.Debtor == debtor {
			s.Lines[i].Debt = debt
		}
	}
}

// noisy is the step with something in each field that its kind does not look at: it is let go.
func noisy(s step) step {
	n := step{Kind: s.Kind, A: 201, B: 202, C: 203, D: 204, N: least, Max: -77, Rate: api.Rat{Num: -1, Den: 4}, Seq: last}
	switch s.Kind {
	case api.KdOpen:
		n.A = s.A
	case api.KdTrust, api.KdPay:
		n.A, n.B, n.C, n.N = s.A, s.B, s.C, s.N
	case api.KdSwap:
		n.A, n.B, n.C, n.D, n.N, n.Max = s.A, s.B, s.C, s.D, s.N, s.Max
	case api.KdPlace:
		n.A, n.C, n.D, n.N, n.Rate = s.A, s.C, s.D, s.N, s.Rate
	case api.KdCancel:
		n.A, n.Seq = s.A, s.Seq
	case api.KdNet:
		n.C, n.Max = s.C, s.Max
	case api.KdDebt:
		n.A, n.B, n.C = s.A, s.B, s.C
	case api.KdPosition:
		n.A, n.C = s.A, s.C
	case api.KdTotal:
		n.C = s.C
	case api.KdLeft:
		n.Seq = s.Seq
	}
	return n
}

// P14.2: each kind alone, of a small state: what X and Y tell, and what changes.
func TestEachStep(t *testing.T) {
	for _, c := range []struct {
		step   step
		got    got
		change func(s *state)
	}{
		{open(5), got{}, func(s *state) { s.Parties = upTo(5) }},
		{open(16), got{}, func(s *state) { s.Parties = append(s.Parties, 16) }},
		// A limit that is another one, the same, just what is owed; a line that comes, and one that goes.
		{trust(3, 2, 1, 31), got{}, func(s *state) { s.Lines[0].Limit = 31 }},
		{trust(3, 2, 1, 30), got{}, stays},
		{trust(3, 2, 1, 5), got{}, func(s *state) { s.Lines[0].Limit = 5 }},
		{trust(3, 2, 1, amount), got{}, func(s *state) { s.Lines[0].Limit = amount }},
		{trust(2, 3, 1, 7), got{}, func(s *state) { s.Lines = slices.Insert(s.Lines, 0, line(1, 2, 3, 7, 0)) }},
		{trust(4, 3, 8, 7), got{}, func(s *state) { s.Lines = append(s.Lines, line(8, 4, 3, 7, 0)) }},
		{trust(3, 4, 1, 0), got{}, func(s *state) { s.Lines = slices.Delete(s.Lines, 1, 2) }},
		{trust(4, 3, 1, 0), got{}, stays},
		// One push, a debt that is paid back, and two pushes, over who lies between.
		{pay(1, 2, 2, 30), got{X: 1}, func(s *state) { owe(s, 2, 2, 1, 40) }},
		{pay(2, 1, 2, 10), got{X: 1}, func(s *state) { owe(s, 2, 2, 1, 0) }},
		{pay(4, 2, 2, 4), got{X: 2}, func(s *state) { owe(s, 2, 4, 1, 5); owe(s, 2, 2, 1, 14) }},
		{pay(4, 2, 2, 9), got{X: 2}, func(s *state) { owe(s, 2, 4, 1, 0); owe(s, 2, 2, 1, 19) }},
		// An offer that is filled in part, and wholly; the better one, of which nothing may be filled, is passed over, and one's own is.
		{swap(1, 3, 1, 2, 3, 9), got{X: 5, Y: 1}, func(s *state) { owe(s, 1, 3, 2, 8); owe(s, 2, 2, 1, 15); s.Offers[0].Left = 5 }},
		{swap(1, 3, 1, 2, 8, 12), got{X: 12, Y: 1}, func(s *state) { owe(s, 1, 3, 2, 13); owe(s, 2, 2, 1, 22); s.Offers = s.Offers[1:] }},
		{swap(4, 3, 1, 2, 1, amount), got{X: 2, Y: 1}, func(s *state) {
			owe(s, 1, 3, 2, 6)
			owe(s, 2, 4, 1, 7)
			owe(s, 2, 2, 1, 12)
			s.Offers[0].Left = 7
		}},
		// An offer that comes, against none, and goes.
		{place(3, 3, 4, 7, 2, 5), got{Y: 6}, func(s *state) { s.Offers = append(s.Offers, offer(6, 3, 3, 4, 7, 2, 5)); s.Next = 7 }},
		{place(1, 2, 3, amount, term, term-1), got{Y: 6}, func(s *state) { s.Offers = append(s.Offers, offer(6, 1, 2, 3, amount, term, term-1)); s.Next = 7 }},
		{cancel(2, 1), got{X: 8}, func(s *state) { s.Offers = s.Offers[1:] }},
		{cancel(1, 4), got{X: 6}, func(s *state) { s.Offers = s.Offers[:2] }},
		{net(1, 0), got{}, stays}, {net(2, 5), got{}, stays}, {net(8, most), got{}, stays},
		// What only tells: of lines that are there, the other way about, of another currency, and of what may not be.
		{debt(3, 2, 1), got{X: 5, Y: 30}, stays}, {debt(3, 4, 1), got{X: 0, Y: 9}, stays}, {debt(4, 1, 2), got{X: 9, Y: 9}, stays},
		{debt(2, 3, 1), got{}, stays}, {debt(3, 2, 2), got{}, stays}, {debt(1, 1, 1), got{}, stays}, {debt(0, 2, 1), got{}, stays}, {debt(3, 17, 1), got{}, stays}, {debt(3, 2, 0), got{}, stays}, {debt(3, 2, 9), got{}, stays}, {debt(9, 10, 1), got{}, stays},
		{position(1, 2), got{X: -19}, stays}, {position(2, 2), got{X: 10}, stays}, {position(4, 2), got{X: 9}, stays}, {position(3, 2), got{}, stays}, {position(3, 1), got{X: 5}, stays},
		{position(0, 2), got{}, stays}, {position(17, 2), got{}, stays}, {position(9, 2), got{}, stays}, {position(1, 0), got{}, stays}, {position(1, 9), got{}, stays}, {position(255, 255), got{}, stays},
		{total(1), got{X: 5}, stays}, {total(2), got{X: 19}, stays}, {total(3), got{}, stays}, {total(0), got{}, stays}, {total(9), got{}, stays}, {total(255), got{}, stays},
		{left(1), got{X: 8}, stays}, {left(3), got{X: 8}, stays}, {left(4), got{X: 6}, stays},
	} {
		want := copied(small())
		c.change(&want)
		for _, s := range []step{c.step, noisy(c.step)} {
			m := of(t, small())
			done(t, "alone", m, []step{s}, c.got)
			holds(t, fmt.Sprint("behind ", s), m, want)
		}
	}
}

// market is a state in which 1 gets of 1 from 2 and 4, and gives them of 2; 3 gets of 1 from 2.
func market(offers ...api.Offer) state {
	return state{
		Parties: upTo(4),
		Lines:   []api.Line{line(1, 1, 2, 20, 0), line(1, 1, 4, 6, 0), line(1, 3, 2, 9, 0), line(2, 2, 1, 50, 0), line(2, 4, 1, 8, 0)},
		Offers:  offers,
		Next:    9,
	}
}

// sold is a market in which so much is owed: what 1 got of 2 and 4, 3 of 2, and what 1 gave 2 and 4.
func sold(got2, got4, got3, given2, given4 int64, offers ...api.Offer) state {
	s := market(offers...)
	for i, debt := range []int64{got2, got4, got3, given2, given4} {
		s.Lines[i].Debt = debt
	}
	return s
}

// P14.2: a swap tells what was given in all fills, and how many they were.
func TestSwaps(t *testing.T) {
	cheap, dear, other := offer(2, 2, 1, 2, 5, 1, 1), offer(3, 2, 1, 2, 5, 3, 2), offer(5, 4, 1, 2, 9, 4, 3)
	less := func(o api.Offer, n int64) api.Offer {
		o.Left -= n
		return o
	}
	for i, c := range []struct {
		step   step
		got    got
		behind state
	}{
		{swap(1, 1, 1, 2, 1, 1), got{X: 1, Y: 1}, sold(1, 0, 0, 1, 0, less(cheap, 1), dear, other)},
		{swap(1, 1, 1, 2, 5, 5), got{X: 5, Y: 1}, sold(5, 0, 0, 5, 0, dear, other)},
		{swap(1, 1, 1, 2, 6, amount), got{X: 7, Y: 2}, sold(5, 1, 0, 5, 2, dear, less(other, 1))},
		{swap(1, 1, 1, 2, 11, 13), got{X: 13, Y: 2}, sold(5, 6, 0, 5, 8, dear, less(other, 6))},
		{swap(1, 1, 1, 2, 14, 18), got{X: 18, Y: 3}, sold(8, 6, 0, 10, 8, less(dear, 3), less(other, 6))},
		{swap(1, 1, 1, 2, 16, 99), got{X: 21, Y: 3}, sold(10, 6, 0, 13, 8, less(other, 6))},
		// Toward another one, and toward an owner: 4 has no way to them.
		{swap(1, 3, 1, 2, 9, 11), got{X: 11, Y: 2}, sold(0, 0, 9, 11, 0, less(dear, 4), other)},
		{swap(1, 2, 1, 2, 7, 8), got{X: 8, Y: 2}, sold(0, 0, 0, 8, 0, less(dear, 2), other)},
	} {
		for _, s := range []step{c.step, noisy(c.step)} {
			m := of(t, market(cheap, dear, other))
			done(t, fmt.Sprint(i), m, []step{s}, c.got)
			holds(t, fmt.Sprint(i), m, c.behind)
		}
	}
}

// P14.2: an offer that comes tells what was got in all fills, and the number of what was placed, which is 0 if nothing was; its own number is let go.
func TestPlaces(t *testing.T) {
	cheap, dear := offer(2, 2, 1, 2, 5, 1, 1), offer(3, 4, 1, 2, 5, 3, 2)
	comes := func(left, num, den int64) api.Offer { return offer(9, 1, 2, 1, left, num, den) }
	for i, c := range []struct {
		step   step
		got    got
		behind state
		next   uint64
	}{
		{place(1, 2, 1, 7, 2, 1), got{Y: 9}, sold(0, 0, 0, 0, 0, cheap, dear, comes(7, 2, 1)), 10},
		{place(1, 2, 1, 4, 1, 1), got{X: 4}, sold(4, 0, 0, 4, 0, offer(2, 2, 1, 2, 1, 1, 1), dear), 9},
		{place(1, 2, 1, 5, 1, 1), got{X: 5}, sold(5, 0, 0, 5, 0, dear), 9},
		{place(1, 2, 1, 7, 1, 1), got{X: 5, Y: 9}, sold(5, 0, 0, 5, 0, dear, comes(2, 1, 1)), 10},
		{place(1, 2, 1, 8, 2, 3), got{X: 7}, sold(5, 2, 0, 5, 3, offer(3, 4, 1, 2, 3, 3, 2)), 9},
		{place(1, 2, 1, 13, 2, 3), got{X: 10}, sold(5, 5, 0, 5, 8), 9},
		{place(1, 2, 1, amount, 2, 3), got{X: 10, Y: 9}, sold(5, 5, 0, 5, 8, comes(amount-13, 2, 3)), 10},
		{place(3, 2, 1, 7, 1, 9), got{Y: 9}, sold(0, 0, 0, 0, 0, cheap, dear, offer(9, 3, 2, 1, 7, 1, 9)), 10},
		{place(1, 2, 3, 7, 1, 1), got{Y: 9}, sold(0, 0, 0, 0, 0, cheap, dear, offer(9, 1, 2, 3, 7, 1, 1)), 10},
	} {
		c.behind.Next = c.next
		for _, s := range []step{c.step, noisy(c.step)} {
			m := of(t, market(cheap, dear))
			done(t, fmt.Sprint(i), m, []step{s}, c.got)
			holds(t, fmt.Sprint(i), m, c.behind)
		}
	}
}

// rings is a state in which 1, 2 and 3 owe round 5, 3 and 4 of 6, and 1 and 2 one another 7 and 8 of 7.
func rings() state {
	return state{Parties: upTo(3), Lines: []api.Line{line(6, 1, 3, 9, 4), line(6, 2, 1, 9, 5), line(6, 3, 2, 9, 3), line(7, 1, 2, 9, 7), line(7, 2, 1, 9, 8)}, Next: 1}
}

// P14.2: a netting tells how much is gone, and how many rounds went.
func TestNets(t *testing.T) {
	for _, quota := range []int64{1, 2, 12, most} {
		m := of(t, rings())
		done(t, "net", m, []step{noisy(net(6, quota))}, got{X: 9, Y: 1})
		want := rings()
		want.Lines[0].Debt, want.Lines[1].Debt, want.Lines[2].Debt = 1, 2, 0
		holds(t, "net", m, want)
		done(t, "net, again", m, []step{net(6, 0)}, got{})
		done(t, "net, of another one", m, []step{net(7, quota), total(7)}, got{X: 14, Y: 1}, got{X: 1})
		want.Lines[3].Debt, want.Lines[4].Debt = 0, 1
		holds(t, "net, of another one", m, want)
	}
	several := state{Parties: upTo(6), Lines: []api.Line{line(2, 1, 2, 9, 4), line(2, 2, 1, 9, 5), line(2, 3, 4, 9, 1), line(2, 4, 3, 9, 1), line(2, 5, 6, 9, 9), line(2, 6, 5, 9, 8)}, Next: 1}
	done(t, "three rounds", of(t, several), []step{net(2, 3), total(2)}, got{X: 26, Y: 3}, got{X: 2})
	refused(t, "three rounds", of(t, several), api.ErrQuota, 0, net(2, 2))
}

// crowded is a state with as many lines and offers as may be; of the currency 1 there is one line.
func crowded() state {
	s := full()
	s.Lines = append([]api.Line{line(1, 3, 2, 30, 5)}, s.Lines[:api.MaxLines-1]...)
	return s
}

// deep lets 1 give 2 as much of 2 as lines can, twice MaxAmount directly, and over each other party; the offers get one unit each for next to nothing, but the last one, of which each unit costs half of MaxAmount.
func deep() state {
	s := state{Parties: upTo(16), Next: 99}
	add := func(x api.Line) { s.Lines = append(s.Lines, x) }
	add(line(1, 16, 2, amount, 0))
	for a := range api.Party(16) {
		for b := range api.Party(16) {
			switch {
			case a == b || a > 1 && b > 1:
			case a == 1 || b == 0:
				add(line(2, a+1, b+1, amount, 0))
			default:
				add(line(2, a+1, b+1, amount, amount))
			}
		}
	}
	for i := range uint64(6) {
		s.Offers = append(s.Offers, offer(i+1, 2, 1, 2, 1, 1, 1))
	}
	s.Offers = append(s.Offers, offer(9, 2, 1, 2, 999, term/2+1, 1))
	return s
}

// An errorCase is a step that has an error, in a state.
type errorCase struct {
	of   state
	step step
	want api.Errno
}

// ledgerErrors are all that the steps of the ledger have: parties, currencies and amounts that may not be, and what the ledger does not let come.
func ledgerErrors() []errorCase {
	s, c := small(), crowded()
	return []errorCase{
		{s, open(0), api.ErrArg}, {s, open(17), api.ErrArg}, {s, open(255), api.ErrArg}, {s, open(1), api.ErrThere}, {s, open(4), api.ErrThere},
		{s, trust(0, 2, 1, 9), api.ErrArg}, {s, trust(17, 2, 1, 9), api.ErrArg}, {s, trust(2, 0, 1, 9), api.ErrArg}, {s, trust(2, 255, 1, 9), api.ErrArg}, {s, trust(2, 2, 1, 9), api.ErrArg},
		{s, trust(3, 2, 0, 9), api.ErrArg}, {s, trust(3, 2, 9, 9), api.ErrArg}, {s, trust(3, 2, 1, -1), api.ErrArg}, {s, trust(3, 2, 1, amount+1), api.ErrArg}, {s, trust(3, 2, 1, least), api.ErrArg}, {s, trust(3, 2, 1, most), api.ErrArg},
		{s, trust(5, 2, 1, 9), api.ErrNone}, {s, trust(2, 16, 1, 9), api.ErrNone}, {s, trust(5, 2, 1, -1), api.ErrArg}, {s, trust(5, 2, 1, 0), api.ErrNone},
		{s, trust(3, 2, 1, 4), api.ErrDebt}, {s, trust(3, 2, 1, 0), api.ErrDebt}, {s, trust(4, 1, 2, 8), api.ErrDebt},
		{c, trust(3, 4, 1, 9), api.ErrFull}, {c, trust(2, 3, 1, 1), api.ErrFull}, {c, trust(3, 2, 1, 4), api.ErrDebt}, {c, trust(16, 17, 1, 1), api.ErrArg},
		{s, pay(0, 2, 2, 5), api.ErrArg}, {s, pay(1, 17, 2, 5), api.ErrArg}, {s, pay(1, 1, 2, 5), api.ErrArg}, {s, pay(1, 2, 0, 5), api.ErrArg}, {s, pay(1, 2, 9, 5), api.ErrArg},
		{s, pay(1, 2, 2, 0), api.ErrArg}, {s, pay(1, 2, 2, -1), api.ErrArg}, {s, pay(1, 2, 2, least), api.ErrArg}, {s, pay(1, 2, 2, amount+1), api.ErrArg}, {s, pay(1, 2, 2, most), api.ErrArg},
		{s, pay(1, 5, 2, 5), api.ErrNone}, {s, pay(16, 2, 2, 5), api.ErrNone}, {s, pay(16, 2, 2, 0), api.ErrArg},
		{s, pay(1, 2, 2, 31), api.ErrRoute}, {s, pay(1, 2, 2, amount), api.ErrRoute}, {s, pay(1, 2, 1, 1), api.ErrRoute}, {s, pay(2, 1, 2, 11), api.ErrRoute}, {s, pay(2, 4, 1, 10), api.ErrRoute},
		{s, net(0, 0), api.ErrArg}, {s, net(9, 5), api.ErrArg}, {s, net(255, 5), api.ErrArg}, {s, net(2, -1), api.ErrArg}, {s, net(2, least), api.ErrArg}, {s, net(3, -1), api.ErrArg},
		{rings(), net(6, 0), api.ErrQuota}, {rings(), net(7, 0), api.ErrQuota}, {rings(), net(6, -1), api.ErrArg}, {rings(), net(9, 0), api.ErrArg},
	}
}

// bookErrors are all that the steps of the book have.
func bookErrors() []errorCase {
	s, c := small(), crowded()
	m := market(offer(2, 2, 1, 2, 5, 1, 1))
	at := func(num, den int64) step { return place(3, 3, 4, 7, num, den) }
	end := small()
	end.Next = last
	return []errorCase{
		{s, swap(0, 3, 1, 2, 3, 9), api.ErrArg}, {s, swap(1, 17, 1, 2, 3, 9), api.ErrArg}, {s, swap(1, 3, 0, 2, 3, 9), api.ErrArg}, {s, swap(1, 3, 1, 9, 3, 9), api.ErrArg}, {s, swap(1, 3, 2, 2, 3, 9), api.ErrArg},
		{s, swap(1, 3, 1, 2, 0, 9), api.ErrArg}, {s, swap(1, 3, 1, 2, -3, 9), api.ErrArg}, {s, swap(1, 3, 1, 2, amount+1, 9), api.ErrArg}, {s, swap(1, 3, 1, 2, 3, 0), api.ErrArg}, {s, swap(1, 3, 1, 2, 3, least), api.ErrArg}, {s, swap(1, 3, 1, 2, 3, amount+1), api.ErrArg},
		{s, swap(5, 3, 1, 2, 3, 9), api.ErrNone}, {s, swap(1, 16, 1, 2, 3, 9), api.ErrNone}, {s, swap(16, 3, 1, 2, 0, 9), api.ErrArg},
		{s, swap(1, 3, 1, 2, 9, amount), api.ErrRoute}, {s, swap(1, 3, 1, 2, 9, 1), api.ErrRoute}, {s, swap(1, 3, 1, 3, 1, amount), api.ErrRoute}, {s, swap(1, 4, 1, 2, 1, amount), api.ErrRoute},
		{s, swap(1, 3, 1, 2, 3, 4), api.ErrMax}, {s, swap(1, 3, 1, 2, 8, 11), api.ErrMax},
		{deep(), swap(1, 16, 1, 2, 65, amount), api.ErrQuota}, {deep(), swap(1, 2, 1, 2, 99, 1), api.ErrQuota}, {deep(), swap(1, 16, 1, 2, 64, amount), api.ErrMax},
		{s, place(0, 3, 4, 7, 1, 1), api.ErrArg}, {s, place(17, 3, 4, 7, 1, 1), api.ErrArg}, {s, place(3, 0, 4, 7, 1, 1), api.ErrArg}, {s, place(3, 3, 9, 7, 1, 1), api.ErrArg}, {s, place(3, 3, 3, 7, 1, 1), api.ErrArg},
		{s, place(3, 3, 4, 0, 1, 1), api.ErrArg}, {s, place(3, 3, 4, -7, 1, 1), api.ErrArg}, {s, place(3, 3, 4, amount+1, 1, 1), api.ErrArg},
		{s, at(0, 1), api.ErrArg}, {s, at(1, 0), api.ErrArg}, {s, at(0, 0), api.ErrArg}, {s, at(-1, -1), api.ErrArg}, {s, at(6, 4), api.ErrArg}, {s, at(term+1, 1), api.ErrArg}, {s, at(1, term+1), api.ErrArg}, {s, at(2, 2), api.ErrArg},
		{s, place(5, 3, 4, 7, 1, 1), api.ErrNone}, {s, place(16, 3, 4, 7, 1, 1), api.ErrNone}, {s, place(16, 3, 4, 7, 2, 2), api.ErrArg},
		{c, place(3, 3, 4, 7, 1, 1), api.ErrFull}, {c, place(3, 3, 4, 7, 2, 2), api.ErrArg}, {end, place(3, 3, 4, 7, 1, 1), api.ErrFull},
		{s, cancel(2, 0), api.ErrNone}, {s, cancel(2, 2), api.ErrNone}, {s, cancel(2, 6), api.ErrNone}, {s, cancel(2, last), api.ErrNone}, {s, cancel(9, 2), api.ErrNone},
		{s, cancel(1, 1), api.ErrOwner}, {s, cancel(2, 4), api.ErrOwner}, {s, cancel(0, 1), api.ErrOwner}, {s, cancel(17, 1), api.ErrOwner}, {s, cancel(9, 1), api.ErrOwner},
		{s, left(0), api.ErrNone}, {s, left(2), api.ErrNone}, {s, left(5), api.ErrNone}, {s, left(6), api.ErrNone}, {s, left(last), api.ErrNone}, {state{Next: 1}, left(1), api.ErrNone}, {m, left(1), api.ErrNone},
	}
}

// P14.2: each error of each kind, as the layer below tells it, wherever the step stands: nothing of the command is done.
func TestErrors(t *testing.T) {
	for i, c := range slices.Concat(ledgerErrors(), bookErrors()) {
		what := fmt.Sprint(i)
		m := of(t, c.of)
		for _, s := range []step{c.step, noisy(c.step)} {
			refused(t, what, m, c.want, 0, s)
			refused(t, what, m, c.want, 0, s, open(0))
			refused(t, what, m, c.want, 0, s, total(1), position(1, 1))
			refused(t, what, m, c.want, 2, total(1), position(1, 1), s, cancel(1, 0), s)
			refused(t, what, m, c.want, 7, total(1), total(2), total(3), total(4), total(5), total(6), total(7), s)
		}
		holds(t, what, m, c.of)
	}
}

// P14.2: each number that a kind could have, of one step: those that are none, whatever the step has besides, and what the others make of it.
func TestKinds(t *testing.T) {
	m := of(t, small())
	for k := range 256 {
		s := step{Kind: api.Kind(k), A: 1, B: 2, C: 2, D: 1, N: 5, Max: 5, Rate: api.Rat{Num: 1, Den: 1}, Seq: 1}
		switch k {
		case 1:
			refused(t, "open", m, api.ErrThere, 0, s)
		case 4:
			refused(t, "swap", m, api.ErrRoute, 0, s)
		case 6:
			refused(t, "cancel", m, api.ErrOwner, 0, s)
		case 2, 3, 5, 7, 8, 9, 10, 11:
			want := map[int]got{3: {X: 1}, 5: {Y: 6}, 9: {X: -19}, 10: {X: 19}, 11: {X: 8}}[k]
			done(t, "a kind", m.Copy(), []step{s}, want)
		default:
			refused(t, "none", m, api.ErrArg, 0, s)
			refused(t, "none", m, api.ErrArg, 0, step{Kind: api.Kind(k)}, open(5))
			refused(t, "none", m, api.ErrArg, 1, open(5), s, open(5))
			refused(t, "none", m, api.ErrThere, 1, open(5), open(5), s)
		}
	}
	holds(t, "none", m, small())
}

// P14.2: no steps, as many as may be, and more: that comes ahead of what is wrong with a step.
func TestManySteps(t *testing.T) {
	m := machines.New()
	for _, steps := range [][]step{nil, {}, make([]step, 0, 5), make([]step, 9), make([]step, 10), make([]step, 1000), slices.Repeat([]step{total(1)}, 9), slices.Repeat([]step{open(1)}, 9)} {
		refused(t, "many", m, api.ErrLimit, 0, steps...)
		holds(t, "many", m, state{Next: 1})
	}
	refused(t, "as many as may be", m, api.ErrArg, 0, make([]step, 8)...)
	for n := 1; n <= api.MaxSteps; n++ {
		var steps []step
		for p := range n {
			steps = append(steps, open(api.Party(p+1)))
		}
		c := m.Copy()
		done(t, "many", c, steps, make([]got, n)...)
		holds(t, "many", c, state{Parties: upTo(api.Party(n)), Next: 1})
	}
	var steps []step
	for p := range api.Party(9) {
		steps = append(steps, open(p+1))
	}
	refused(t, "one more", m, api.ErrLimit, 0, steps...)
	holds(t, "one more", m, state{Next: 1})
}

// P14.2: the first, a middle and the last step has an error: nothing of the command is done, whatever the others would do, and no Got is told.
func TestAtWhichStep(t *testing.T) {
	fine := []step{open(9), trust(9, 1, 2, 20), pay(1, 9, 2, 12), place(9, 1, 3, 4, 1, 1), swap(1, 3, 1, 2, 2, 3), cancel(4, 3), trust(3, 4, 1, 0), net(2, 9)}
	m := of(t, small())
	for _, wrong := range []struct {
		step step
		want api.Errno
	}{{step{}, api.ErrArg}, {open(1), api.ErrThere}, {pay(1, 2, 2, 99), api.ErrRoute}, {left(2), api.ErrNone}, {cancel(3, 4), api.ErrOwner}, {trust(3, 2, 1, 4), api.ErrDebt}, {swap(1, 3, 1, 2, 2, 1), api.ErrMax}} {
		for at := range fine {
			steps := slices.Clone(fine)
			steps[at] = wrong.step
			refused(t, "instead", m, wrong.want, at, steps...)
			refused(t, "at the end", m, wrong.want, at, steps[:at+1]...)
			holds(t, "wrong", m, small())
		}
	}
	// Of two that are wrong the first one is told; so of one that is only wrong behind the others.
	refused(t, "two", m, api.ErrNone, 1, fine[0], left(2), open(1), step{})
	refused(t, "two", m, api.ErrThere, 1, open(5), open(5))
	refused(t, "two", m, api.ErrRoute, 2, pay(1, 2, 2, 20), pay(1, 2, 2, 10), pay(1, 2, 2, 1))
	refused(t, "two", m, api.ErrNone, 1, cancel(2, 1), left(1))
	refused(t, "two", m, api.ErrNone, 2, swap(1, 3, 1, 2, 3, 5), swap(1, 3, 1, 2, 5, 8), cancel(2, 1))
	refused(t, "two", m, api.ErrDebt, 1, pay(2, 3, 1, 1), trust(3, 2, 1, 5))
	holds(t, "wrong", m, small())
	done(t, "fine", m, fine, got{}, got{}, got{X: 1}, got{Y: 6}, got{X: 3, Y: 1}, got{X: 8}, got{}, got{})
}

// P14.2, P14.4: steps that stand on what the ones ahead left, of all kinds.
func TestOnWhatIsLeft(t *testing.T) {
	m := machines.New()
	done(t, "ahead", m, []step{open(2), open(1), trust(1, 2, 5, 10), pay(2, 1, 5, 6), debt(1, 2, 5), position(2, 5), total(5), trust(1, 2, 5, 6)},
		got{}, got{}, got{}, got{X: 1}, got{X: 6, Y: 10}, got{X: -6}, got{X: 6}, got{})
	done(t, "back", m, []step{pay(1, 2, 5, 6), trust(1, 2, 5, 0), debt(1, 2, 5), total(5), trust(2, 1, 5, 3), pay(1, 2, 5, 3), debt(2, 1, 5), position(1, 5)},
		got{X: 1}, got{}, got{}, got{}, got{}, got{X: 1}, got{X: 3, Y: 3}, got{X: -3})
	done(t, "offers", m, []step{trust(2, 1, 6, 9), trust(1, 2, 7, 9), place(2, 7, 6, 5, 3, 2), left(1), swap(1, 1, 7, 6, 2, 3), left(1), cancel(2, 1), place(2, 7, 6, 1, 1, 1)},
		got{}, got{}, got{Y: 1}, got{X: 5}, got{X: 3, Y: 1}, got{X: 3}, got{X: 3}, got{Y: 2})
	done(t, "fills", m, []step{place(1, 6, 7, 4, 1, 1), left(3), position(2, 6), position(1, 7), debt(2, 1, 6), debt(1, 2, 7), total(6), total(7)},
		got{X: 1, Y: 3}, got{X: 3}, got{X: 4}, got{X: 3}, got{X: 4, Y: 9}, got{X: 3, Y: 9}, got{X: 4}, got{X: 3})
	done(t, "a round", m, []step{open(3), trust(3, 1, 5, 8), trust(2, 3, 5, 8), trust(1, 2, 5, 8), pay(3, 2, 5, 2), pay(1, 3, 5, 2), pay(2, 1, 5, 5), net(5, 1)},
		got{}, got{}, got{}, got{}, got{X: 1}, got{X: 1}, got{X: 1}, got{X: 6, Y: 1})
	done(t, "no round", m, []step{net(5, 0), total(5), trust(1, 2, 5, 0), debt(3, 1, 5)}, got{}, got{}, got{}, got{Y: 8})
}

// P14.2: what is left of an offer that is none yet, was filled in part, wholly, and cancelled.
func TestLeft(t *testing.T) {
	m := of(t, market(offer(2, 2, 1, 2, 5, 1, 1)))
	refused(t, "none yet", m, api.ErrNone, 0, left(9))
	done(t, "placed", m, []step{place(4, 1, 2, 6, 4, 3), left(9), left(2)}, got{Y: 9}, got{X: 6}, got{X: 5})
	done(t, "in part", m, []step{swap(1, 1, 1, 2, 3, 3), left(2), left(9)}, got{X: 3, Y: 1}, got{X: 2}, got{X: 6})
	done(t, "wholly", m, []step{swap(1, 1, 1, 2, 3, 4), left(9)}, got{X: 4, Y: 2}, got{X: 5})
	refused(t, "wholly", m, api.ErrNone, 0, left(2))
	refused(t, "wholly", m, api.ErrNone, 0, cancel(2, 2))
	refused(t, "cancelled", m, api.ErrNone, 1, cancel(4, 9), left(9))
	done(t, "not cancelled", m, []step{left(9)}, got{X: 5})
	done(t, "cancelled", m, []step{cancel(4, 9)}, got{X: 5})
	refused(t, "cancelled", m, api.ErrNone, 0, left(9))
	refused(t, "filled at once", m, api.ErrNone, 3, place(2, 1, 2, 2, 1, 1), left(10), place(1, 2, 1, 2, 1, 1), left(10))
}

// P14.3: the next number behind offers that were placed, filled at once, in part, wholly, and cancelled, and behind what was not done.
func TestNext(t *testing.T) {
	m := of(t, market())
	next := func(want uint64) {
		t.Helper()
		if got := m.State().Next; got != want {
			t.Fatalf("the next number is %d, not %d", got, want)
		}
	}
	next(9)
	done(t, "placed", m, []step{place(2, 1, 2, 5, 1, 1)}, got{Y: 9})
	next(10)
	done(t, "filled at once", m, []step{place(1, 2, 1, 3, 1, 1)}, got{X: 3})
	next(10)
	refused(t, "not done", m, api.ErrArg, 2, place(2, 1, 2, 5, 1, 1), place(2, 1, 2, 5, 2, 1), step{})
	next(10)
	done(t, "in part", m, []step{place(1, 2, 1, 3, 1, 1)}, got{X: 2, Y: 10})
	next(11)
	done(t, "cancelled", m, []step{cancel(1, 10)}, got{X: 1})
	next(11)
	done(t, "cancelled at once", m, []step{place(3, 4, 5, 1, 1, 1), cancel(3, 11), place(3, 4, 5, 2, 1, 1), place(3, 4, 5, 3, 1, 1), left(13)}, got{Y: 11}, got{X: 1}, got{Y: 12}, got{Y: 13}, got{X: 3})
	next(14)
	done(t, "swapped", m, []step{place(2, 1, 2, 1, 1, 1), swap(1, 1, 1, 2, 1, 1)}, got{Y: 14}, got{X: 1, Y: 1})
	next(15)
	if offers := m.State().Offers; len(offers) != 2 || offers[0].Seq != 12 || offers[1].Seq != 13 {
		t.Errorf("the offers are %v", offers)
	}
}

// P14.2: a number of 64 bits is told as the one with a sign that has its bits.
func TestNumbers(t *testing.T) {
	for _, c := range []struct {
		next uint64
		want int64
	}{{1, 1}, {1 << 32, 1 << 32}, {1<<63 - 1, most}, {1 << 63, least}, {1<<63 + 1, least + 1}, {last - 1, -2}} {
		s := market()
		s.Next = c.next
		m := of(t, s)
		done(t, "number", m, []step{place(3, 1, 2, 5, 1, 1), left(c.next)}, got{Y: c.want}, got{X: 5})
		refused(t, "number", m, api.ErrNone, 0, left(c.next+1))
		done(t, "number", m, []step{cancel(3, c.next)}, got{X: 5})
		holds(t, "number", m, state{Parties: s.Parties, Lines: s.Lines, Next: c.next + 1})
	}
	s := market()
	s.Next = last
	m := of(t, s)
	refused(t, "the end", m, api.ErrFull, 0, place(3, 1, 2, 5, 1, 1))
	s.Next, s.Offers = last-1, nil
	m = of(t, s)
	refused(t, "behind the end", m, api.ErrFull, 1, place(3, 1, 2, 5, 1, 1), place(3, 1, 2, 5, 1, 1))
	holds(t, "the end", m, s)
}

// P14.2: as many parties, lines and offers as may be come about by commands, and no more.
func TestFull(t *testing.T) {
	m, want := machines.New(), full()
	for _, p := range want.Parties {
		done(t, "full", m, []step{open(p)}, got{})
	}
	for i, x := range want.Lines {
		want.Lines[i].Debt = 0
		done(t, "full", m, []step{trust(x.Creditor, x.Debtor, x.Currency, x.Limit)}, got{})
	}
	for i, o := range want.Offers {
		want.Offers[i].Seq = uint64(i + 1)
		done(t, "full", m, []step{place(o.Owner, o.Sell, o.Buy, o.Left, o.Rate.Num, o.Rate.Den)}, got{Y: int64(i + 1)})
	}
	want.Next = api.MaxOffers + 1
	holds(t, "full", m, want)
	refused(t, "full", m, api.ErrFull, 0, trust(1, 2, 1, 1))
	refused(t, "full", m, api.ErrFull, 0, place(1, 1, 2, 1, 1, 1))
	done(t, "room again", m, []step{trust(1, 2, 8, 0), trust(1, 2, 1, 1), cancel(16, 16), place(1, 1, 2, 1, 1, 1)}, got{}, got{}, got{X: 16}, got{Y: 33})
	refused(t, "full again", m, api.ErrFull, 1, left(33), trust(1, 2, 8, 1))
}
