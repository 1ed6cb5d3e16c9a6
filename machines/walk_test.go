package machines_test

import (
	"fmt"
	"slices"
	"testing"

	"countinghouse/api"
	"countinghouse/books"
	"countinghouse/fills"
	"countinghouse/ledgers"
	"countinghouse/machines"
	"countinghouse/nettings"
	"countinghouse/payments"
	"countinghouse/places"
	"countinghouse/swaps"
)

// dice throws the same numbers in each run.
type dice uint64

func (d *dice) below(n int) int {
	*d = *d*6364136223846793005 + 1442695040888963407
	return int(*d >> 33 % dice(n))
}

// upTo is from 0 to a number that is allowed itself.
func (d *dice) upTo(high int64) int64 {
	return (int64(d.below(1<<30))<<20 + int64(d.below(1<<20))) % (high + 1)
}

// A standing is all parties' positions, in all currencies, those that may not be too.
type standing [10][18]int64

// stands is counted from the lines alone.
func stands(s state) (m standing) {
	for _, x := range s.Lines {
		m[x.Currency][x.Creditor] += x.Debt
		m[x.Currency][x.Debtor] -= x.Debt
	}
	return m
}

// follows holds what the document says of a step that went, whatever the layers below are: of debts, positions, and what may not change.
func follows(t *testing.T, what string, s step, g got, was, is state) {
	t.Helper()
	before, after := stands(was), stands(is)
	for _, x := range is.Lines {
		if x.Debt < 0 || x.Debt > x.Limit {
			t.Fatalf("%s: the line %v", what, x)
		}
	}
	filled := takenOf(was, is, s)
	for c, row := range after {
		sum := int64(0)
		for p, n := range row {
			sum += n
			if n != before[c][p] && !mayMove(s, api.Party(p), api.Currency(c), filled) {
				t.Fatalf("%s: %d stands at %d of %d, not %d", what, p, n, c, before[c][p])
			}
		}
		if sum != 0 {
			t.Fatalf("%s: positions of %d come to %d", what, c, sum)
		}
	}
	asMuch(t, what, s, g, before, after, filled)
	untouched(t, what, s, g, was, is)
}

// takenOf tells of which owners an offer was filled, and by how much, by what is left of it.
func takenOf(was, is state, s step) map[api.Party]int64 {
	filled := map[api.Party]int64{}
	if s.Kind == api.KdCancel {
		return filled
	}
	for _, o := range was.Offers {
		n := o.Left
		for _, x := range is.Offers {
			if x.Seq == o.Seq {
				n -= x.Left
			}
		}
		if n != 0 {
			filled[o.Owner] += n
		}
	}
	return filled
}

// mayMove asks whether a party may stand elsewhere behind a step.
func mayMove(s step, p api.Party, c api.Currency, filled map[api.Party]int64) bool {
	_, fills := filled[p]
	switch s.Kind {
	case api.KdPay:
		return c == s.C && (p == s.A || p == s.B)
	case api.KdSwap:
		return (c == s.C || c == s.D) && (p == s.A || p == s.B || fills)
	case api.KdPlace:
		return (c == s.C || c == s.D) && (p == s.A || fills)
	}
	return false
}

// asMuch holds by how much who pays and who gets stand elsewhere.
func asMuch(t *testing.T, what string, s step, g got, before, after standing, filled map[api.Party]int64) {
	t.Helper()
	moved := func(p api.Party, c api.Currency, want int64) {
		t.Helper()
		if n := after[c][p] - before[c][p]; n != want {
			t.Fatalf("%s: %d stands %d of %d elsewhere, not %d", what, p, n, c, want)
		}
	}
	all := int64(0)
	for _, n := range filled {
		all += n
	}
	switch s.Kind {
	case api.KdPay:
		moved(s.A, s.C, -s.N)
		moved(s.B, s.C, s.N)
	case api.KdSwap:
		moved(s.A, s.D, -g.X)
		moved(s.B, s.C, s.N-filled[s.B])
		if all != s.N || g.X > s.Max || g.Y < 1 {
			t.Fatalf("%s: %v of %d", what, g, all)
		}
	case api.KdPlace:
		moved(s.A, s.D, g.X)
		if all != g.X {
			t.Fatalf("%s: %v of %d", what, g, all)
		}
	}
}

// untouched holds what a step of a kind leaves as it is.
func untouched(t *testing.T, what string, s step, g got, was, is state) {
	t.Helper()
	k := s.Kind
	if k != api.KdOpen && !slices.Equal(is.Parties, was.Parties) {
		t.Fatalf("%s: the parties are %v", what, is.Parties)
	}
	if k != api.KdSwap && k != api.KdPlace && k != api.KdCancel && !slices.Equal(is.Offers, was.Offers) {
		t.Fatalf("%s: the offers are %v", what, is.Offers)
	}
	if next := is.Next - was.Next; next > 1 || next == 1 && (k != api.KdPlace || uint64(g.Y) != was.Next) || next == 0 && k == api.KdPlace && g.Y != 0 {
		t.Fatalf("%s: the next number is %d", what, is.Next)
	}
	if k == api.KdTrust {
		return
	}
	if len(is.Lines) != len(was.Lines) {
		t.Fatalf("%s: the lines are %v", what, is.Lines)
	}
	gone := int64(0)
	for i, x := range is.Lines {
		y := was.Lines[i]
		gone += y.Debt - x.Debt
		moves := k == api.KdPay && x.Currency == s.C || (k == api.KdSwap || k == api.KdPlace) && (x.Currency == s.C || x.Currency == s.D) || k == api.KdNet && x.Currency == s.C && x.Debt < y.Debt
		if moves {
			y.Debt = x.Debt
		}
		if x != y {
			t.Fatalf("%s: the line %v was %v", what, x, was.Lines[i])
		}
	}
	if k == api.KdNet && gone != g.X {
		t.Fatalf("%s: %d is gone, not %v", what, gone, g)
	}
}

// plain is a machine as the chapter's words have it: it keeps what it tells, and makes a house of that for each step.
type plain state

// house of it.
func (p plain) house() fills.House {
	l, e := ledgers.Of(p.Parties, p.Lines)
	b, f := books.Of(p.Offers, p.Next)
	if e != api.OK || f != api.OK {
		panic(fmt.Sprint(p, e, f))
	}
	return fills.House{L: l, B: b}
}

// step of it: what it becomes, and what is told.
func (p plain) step(s step) (plain, got, api.Errno) {
	h := p.house()
	after, g, e := h, got{}, api.OK
	switch s.Kind {
	case 1:
		e = h.L.Open(s.A)
	case 2:
		e = h.L.Trust(s.A, s.B, s.C, s.N)
	case 3:
		g.X, e = payments.Pay(h.L, s.A, s.B, s.C, s.N)
	case 4:
		var all []fills.Fill
		after, all, e = swaps.Swap(h, s.A, s.B, s.C, s.D, s.N, s.Max)
		g = got{X: swaps.Given(all), Y: int64(len(all))}
	case 5:
		var all []fills.Fill
		var seq uint64
		after, all, seq, e = places.Place(h, api.Offer{Seq: 5, Owner: s.A, Sell: s.C, Buy: s.D, Left: s.N, Rate: s.Rate})
		for _, f := range all {
			g.X += f.Got
		}
		g.Y = int64(seq)
	case 6:
		g.X, e = h.B.Cancel(s.A, s.Seq)
	case 7:
		g.X, g.Y, e = nettings.Net(h.L, s.C, s.Max)
	default:
		g, e = p.tell(s)
	}
	if e != api.OK {
		return p, got{}, e
	}
	return plain{after.L.Parties(), after.L.Lines(), after.B.All(), after.B.Next()}, g, api.OK
}

// tell what a step tells by which nothing is done.
func (p plain) tell(s step) (g got, e api.Errno) {
	switch s.Kind {
	case 8:
		for _, x := range p.Lines {
			if x.Creditor == s.A && x.Debtor == s.B && x.Currency == s.C {
				g = got{X: x.Debt, Y: x.Limit}
			}
		}
	case 9:
		if s.C < 10 && s.A < 18 {
			g.X = stands(state(p))[s.C][s.A]
		}
	case 10:
		for _, x := range p.Lines {
			if x.Currency == s.C {
				g.X += x.Debt
			}
		}
	case 11:
		at := slices.IndexFunc(p.Offers, func(o api.Offer) bool { return o.Seq == s.Seq })
		if at < 0 {
			return g, api.ErrNone
		}
		g.X = p.Offers[at].Left
	default:
		return g, api.ErrArg
	}
	return g, api.OK
}

// apply a command to it: what it becomes, and the reply.
func (p plain) apply(steps []step) (plain, api.Reply) {
	if len(steps) < 1 || len(steps) > 8 {
		return p, api.Reply{E: api.ErrLimit}
	}
	is, r := p, api.Reply{}
	for i, s := range steps {
		var g got
		var e api.Errno
		if is, g, e = is.step(s); e != api.OK {
			return p, api.Reply{E: e, At: i}
		}
		r.Got = append(r.Got, g)
	}
	return is, r
}

// A walk throws steps: of the first few parties and currencies, and amounts up to one.
type walk struct {
	dice
	parties, currencies int
	high                int64
	wild                int // of so many numbers one may not be
}

func (w *walk) party() api.Party {
	if w.below(w.wild) == 0 {
		return []api.Party{0, 17, 255, 16, 12}[w.below(5)]
	}
	return api.Party(1 + w.below(w.parties))
}

func (w *walk) currency() api.Currency {
	if w.below(w.wild) == 0 {
		return []api.Currency{0, 9, 255, 8}[w.below(4)]
	}
	return api.Currency(1 + w.below(w.currencies))
}

func (w *walk) amount(high int64) int64 {
	if w.below(w.wild) == 0 {
		return []int64{0, -1, amount, amount + 1, least, most}[w.below(6)]
	}
	return 1 + w.upTo(high-1)
}

// rate is mostly one of a few, of which each has its inverse among them.
func (w *walk) rate() api.Rat {
	if w.below(w.wild) == 0 {
		return []api.Rat{{}, {Num: 2, Den: 2}, {Num: -1, Den: 1}, {Num: term + 1, Den: 1}, {Num: term, Den: 1}, {Num: 1, Den: term}}[w.below(6)]
	}
	return []api.Rat{{Num: 1, Den: 1}, {Num: 3, Den: 2}, {Num: 2, Den: 3}, {Num: 2, Den: 1}, {Num: 1, Den: 2}, {Num: 5, Den: 7}, {Num: 7, Den: 5}}[w.below(7)]
}

// seq is mostly that of an offer that stands, and its owner.
func (w *walk) seq(s state) (uint64, api.Party) {
	if len(s.Offers) == 0 || w.below(w.wild) == 0 {
		return []uint64{0, 1, s.Next, last}[w.below(4)], w.party()
	}
	o := s.Offers[w.below(len(s.Offers))]
	if w.below(9) == 0 {
		return o.Seq, w.party()
	}
	return o.Seq, o.Owner
}

// line is mostly one that is there, so that its limit changes.
func (w *walk) line(s state) (a, b api.Party, c api.Currency) {
	if len(s.Lines) == 0 || w.below(3) > 0 {
		return w.party(), w.party(), w.currency()
	}
	x := s.Lines[w.below(len(s.Lines))]
	return x.Creditor, x.Debtor, x.Currency
}

// step that may have sense in a state.
func (w *walk) step(in state) (s step) {
	kinds := []api.Kind{1, 2, 2, 2, 3, 3, 3, 3, 4, 4, 4, 5, 5, 5, 5, 6, 7, 7, 8, 9, 10, 11}
	s.Kind = kinds[w.below(len(kinds))]
	s.A, s.B, s.C, s.D = w.party(), w.party(), w.currency(), w.currency()
	s.N, s.Max, s.Rate = w.amount(w.high), w.amount(amount), w.rate()
	switch s.Kind {
	case api.KdNone + 1:
		s.A = api.Party(1 + w.below(17))
	case api.KdTrust:
		s.A, s.B, s.C = w.line(in)
		s.N = []int64{0, s.N, s.N, w.amount(4 * w.high), min(amount, 9*w.high)}[w.below(5)]
	case api.KdSwap:
		s.N = w.amount(w.high/3 + 1)
		s.Max = []int64{s.Max, w.amount(2 * w.high)}[w.below(2)]
		if len(in.Offers) > 0 && w.below(5) > 0 {
			o := in.Offers[w.below(len(in.Offers))]
			s.C, s.D = o.Sell, o.Buy
		}
		if w.below(4) == 0 {
			s.B = s.A
		}
	case api.KdCancel, api.KdLeft:
		s.Seq, s.A = w.seq(in)
	case api.KdNet:
		s.Max = []int64{0, 0, 1, s.Max, most}[w.below(5)]
	case api.KdDebt:
		s.A, s.B, s.C = w.line(in)
	}
	if w.below(3*w.wild) == 0 {
		s.Kind = []api.Kind{0, 12, 255, api.Kind(w.below(256))}[w.below(4)]
	}
	if w.below(4) == 0 {
		s = noisy(s)
	}
	return s
}

// steps of a command: mostly such of which each goes on what the ones ahead left, now and then with one that may not.
func (w *walk) steps(in plain) (l []step) {
	n := []int{1, 1, 2, 3, 5, 8, 8, 9, 0}[w.below(9)]
	wrong := w.below(3) == 0
	for len(l) < n {
		s := w.step(state(in))
		is, _, e := in.step(s)
		if e != api.OK && !wrong && w.below(12) > 0 {
			continue
		}
		in = is
		l = append(l, s)
		if e != api.OK {
			wrong = false
		}
	}
	return l
}

// start is a state of its parties: with nothing, with lines on which much is owed round, or with nearly as many lines and offers as may be.
func (w *walk) start() plain {
	p := plain{Next: []uint64{1, 1, 99, 1<<63 - 20, last - 40}[w.below(5)]}
	for q := range w.parties {
		p.Parties = append(p.Parties, api.Party(q+1))
	}
	lines, offers := []int{0, 20, 63}[w.below(3)], []int{0, 6, 29}[w.below(3)]
	for c := range w.currencies {
		for a := range w.parties {
			for b := range w.parties {
				if a == b || len(p.Lines) == lines || w.below(5) == 0 {
					continue
				}
				x := line(api.Currency(c+1), api.Party(a+1), api.Party(b+1), 1+w.upTo(2*w.high), 0)
				x.Debt = w.upTo(x.Limit)
				p.Lines = append(p.Lines, x)
			}
		}
	}
	for i := range min(uint64(offers), p.Next-1) {
		sell := api.Currency(1 + w.below(w.currencies))
		o := api.Offer{Seq: i + 1, Owner: api.Party(1 + w.below(w.parties)), Sell: sell, Buy: sell%api.Currency(w.currencies) + 1, Left: 1 + w.upTo(w.high-1), Rate: api.Rat{Num: 1 + w.upTo(4), Den: 1}}
		p.Offers = append(p.Offers, o)
	}
	return p
}

// P14.1 to P14.4: whatever commands come, one behind the other, a machine does what the layers below it say, from nothing, or from a state that has much.
func TestWalk(t *testing.T) {
	came := map[string]int{}
	for seed := range 400 {
		d := dice(seed)
		w := &walk{dice: d, parties: 3 + d.below(5), currencies: 2 + d.below(3), high: []int64{9, 30, 30, amount / 8}[d.below(4)], wild: 40}
		p := w.start()
		m := of(t, state(p))
		for i := range 40 {
			what := fmt.Sprintf("walk %d, command %d", seed, i)
			steps := w.steps(p)
			is, r := p.apply(steps)
			asked(t, what, m, r, steps)
			holds(t, what, m, state(is))
			tell(came, steps, r)
			p = is
			if w.below(9) == 0 {
				m = []*machines.Machine{m.Copy(), of(t, m.State())}[w.below(2)]
			}
		}
	}
	enough(t, came)
}

// tell of what kind the steps were, and where one was wrong.
func tell(came map[string]int, steps []step, r api.Reply) {
	switch {
	case r.E == api.ErrLimit:
		came[fmt.Sprint(len(steps), " steps")]++
	case r.E != api.OK:
		s := steps[r.At]
		came[fmt.Sprint("kind ", min(s.Kind, 12), ": ", r.E)]++
		came[[]string{"the first", "in between", "the last"}[where(r.At, len(steps))]+" is wrong"]++
	default:
		came[fmt.Sprint(len(steps), " steps go")]++
		for i, s := range steps {
			came[fmt.Sprint("kind ", s.Kind)]++
			if g := r.Got[i]; g.X != 0 && g.Y != 0 {
				came[fmt.Sprint("kind ", s.Kind, ", both")]++
			}
			if r.Got[i].Y < 0 {
				came["below 0"]++
			}
		}
	}
}

// where tells whether a step is the first one, one in between, or the last one.
func where(at, n int) int {
	switch at {
	case 0:
		return 0
	case n - 1:
		return 2
	}
	return 1
}

// enough came of all that the chapter tells apart.
func enough(t *testing.T, came map[string]int) {
	t.Helper()
	want := []string{"0 steps", "9 steps", "the first is wrong", "in between is wrong", "the last is wrong", "below 0", "kind 0: errno 1", "kind 12: errno 1"}
	for k := 1; k <= 11; k++ {
		want = append(want, fmt.Sprint("kind ", k))
	}
	for _, k := range []int{4, 5, 7, 8} {
		want = append(want, fmt.Sprint("kind ", k, ", both"))
	}
	for _, n := range []int{1, 2, 3, 5, 8} {
		want = append(want, fmt.Sprint(n, " steps go"))
	}
	for k, errors := range map[int][]api.Errno{
		1: {api.ErrArg, api.ErrThere}, 2: {api.ErrArg, api.ErrNone, api.ErrDebt, api.ErrFull}, 3: {api.ErrArg, api.ErrNone, api.ErrRoute},
		4: {api.ErrArg, api.ErrNone, api.ErrRoute, api.ErrMax}, 5: {api.ErrArg, api.ErrNone, api.ErrFull}, 6: {api.ErrNone, api.ErrOwner}, 7: {api.ErrArg, api.ErrQuota}, 11: {api.ErrNone},
	} {
		for _, e := range errors {
			want = append(want, fmt.Sprint("kind ", k, ": ", e))
		}
	}
	for _, what := range want {
		if came[what] < 10 {
			t.Errorf("%s: %d times only", what, came[what])
		}
	}
}
