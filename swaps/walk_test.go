package swaps_test

import (
	"fmt"
	"math/big"
	"slices"
	"testing"

	"countinghouse/api"
	"countinghouse/fills"
	"countinghouse/ledgers"
	"countinghouse/swaps"
)

// dice throws the same numbers in each run.
type dice uint64

func (d *dice) below(n int) int {
	*d = *d*6364136223846793005 + 1442695040888963407
	return int(*d >> 33 % dice(n))
}

// upTo is from 0 to a number that is allowed itself.
func (d *dice) upTo(high int64) int64 {
	return (int64(d.below(1<<30))<<20 + int64(d.below(1<<20))) % (high + 1)
}

// some parties, rising.
func (d *dice) some(n int) []api.Party {
	l := all()
	for len(l) > n {
		at := d.below(len(l))
		l = slices.Delete(l, at, at+1)
	}
	return l
}

// lines of the currencies 1, 2 and 8, some both ways, of which something is owed, now and then by both to one another.
func (d *dice) lines(parties []api.Party, dense int, high int64) []api.Line {
	var lines []api.Line
	for _, c := range []api.Currency{1, 2, 8} {
		for _, a := range parties {
			for _, b := range parties {
				if a == b || d.below(100) >= dense || len(lines) == api.MaxLines {
					continue
				}
				x := line(c, a, b, 1+d.upTo(high-1), 0)
				x.Debt = min(x.Limit, d.upTo(high))
				lines = append(lines, x)
			}
		}
	}
	return lines
}

// rate is mostly one of a few, so that offers of one rate come.
func (d *dice) rate(high int64) api.Rat {
	if d.below(4) > 0 {
		return []api.Rat{{Num: 1, Den: 1}, {Num: 3, Den: 2}, {Num: 2, Den: 3}, {Num: 2, Den: 1}, {Num: 1, Den: 7}, {Num: 7, Den: 5}}[d.below(6)]
	}
	x := big.NewRat(1+d.upTo(high-1), 1+d.upTo(high-1))
	return api.Rat{Num: x.Num().Int64(), Den: x.Denom().Int64()}
}

// pairs of currencies that are sold and bought: mostly the first one.
func (d *dice) pair() [2]api.Currency {
	return [][2]api.Currency{{1, 2}, {1, 2}, {1, 2}, {2, 1}, {8, 2}, {1, 8}}[d.below(6)]
}

// offers of the ledger's parties, now and then of somebody else.
func (d *dice) offers(parties []api.Party, high int64) (list []api.Offer) {
	for seq := range uint64(12) {
		owner := parties[d.below(len(parties))]
		if d.below(15) == 0 {
			owner = all()[d.below(16)]
		}
		pair := d.pair()
		list = append(list, api.Offer{Seq: seq + 1, Owner: owner, Sell: pair[0], Buy: pair[1], Left: 1 + d.upTo(high-1), Rate: d.rate([]int64{9, term}[d.below(2)])})
	}
	return list
}

// ask of what may be, now and then of what is none of the ledger's: how much is up to the caller.
func (d *dice) ask(parties []api.Party, high int64) ask {
	pair := d.pair()
	a := ask{from: parties[d.below(len(parties))], to: parties[d.below(len(parties))], get: pair[0], give: pair[1]}
	if d.below(30) == 0 {
		a.to = all()[d.below(16)]
	}
	a.n = []int64{1, 2, 1 + d.upTo(high-1), 1 + d.upTo(high/4)}[d.below(4)]
	a.most = []int64{amount, amount, a.n, min(amount, 2*a.n), 1 + d.upTo(high-1)}[d.below(5)]
	return a
}

// lesser asks whether one rate is less than another one.
func lesser(a, b api.Rat) bool { return big.NewRat(a.Num, a.Den).Cmp(big.NewRat(b.Num, b.Den)) < 0 }

// better asks whether an offer comes ahead of another one, of the same currencies.
func better(a, b api.Offer) bool {
	return lesser(a.Rate, b.Rate) || !lesser(b.Rate, a.Rate) && a.Seq < b.Seq
}

// best one of which something may be filled, found among all that stand, in no order.
func best(h fills.House, a ask, wanted int64) (o api.Offer, n int64) {
	for _, x := range h.B.All() {
		if x.Sell != a.get || x.Buy != a.give || n > 0 && better(o, x) {
			continue
		}
		if m := h.May(x.Seq, a.from, a.to, wanted, amount); m > 0 {
			o, n = x, m
		}
	}
	return o, n
}

// plain is a swap by the chapter's words, of one that may be.
func plain(h fills.House, a ask) (fills.House, []fills.Fill, api.Errno) {
	if !slices.Contains(h.L.Parties(), a.from) || !slices.Contains(h.L.Parties(), a.to) {
		return fills.House{}, nil, api.ErrNone
	}
	after := h.Copy()
	var list []fills.Fill
	got, given := int64(0), int64(0)
	for got < a.n {
		o, n := best(after, a, a.n-got)
		if n == 0 {
			return fills.House{}, nil, api.ErrRoute
		}
		if len(list) == 64 {
			return fills.House{}, nil, api.ErrQuota
		}
		f, e := after.Do(o.Seq, a.from, a.to, n)
		if e != api.OK {
			panic(e)
		}
		list = append(list, f)
		got += f.Got
		given += f.Given
	}
	if given > a.most {
		return fills.House{}, nil, api.ErrMax
	}
	return after, list, api.OK
}

// A standing is all parties' positions, those that are none of the ledger's too, in all currencies.
type standing map[api.Currency]map[api.Party]int64

func stands(l *ledgers.Ledger) standing {
	s := standing{}
	for c := range api.Currency(8) {
		s[c+1] = map[api.Party]int64{}
		for _, p := range all() {
			s[c+1][p] = l.Position(p, c+1)
		}
	}
	return s
}

// find an offer among all.
func find(t *testing.T, what string, h fills.House, seq uint64) api.Offer {
	t.Helper()
	for _, o := range h.B.All() {
		if o.Seq == seq {
			return o
		}
	}
	t.Fatalf("%s: no offer %d", what, seq)
	return api.Offer{}
}

// follows holds all that the document says of a swap that went.
func follows(t *testing.T, what string, h, after fills.House, a ask, list []fills.Fill) {
	t.Helper()
	positions, step := stands(h.L), h.Copy()
	got, given := int64(0), int64(0)
	for i, f := range list {
		o := find(t, what, step, f.Seq)
		if f.Taker != a.from || f.To != a.to || o.Sell != a.get || o.Buy != a.give || o.Owner == a.from {
			t.Fatalf("%s: the fill %d is %v, of %v", what, i, f, o)
		}
		for _, x := range step.B.All() {
			if x.Sell == o.Sell && x.Buy == o.Buy && better(x, o) && step.May(x.Seq, a.from, a.to, a.n-got, amount) != 0 {
				t.Fatalf("%s: the fill %d is %v, of %v; better is %v", what, i, f, o, x)
			}
		}
		if n := step.May(f.Seq, a.from, a.to, a.n-got, amount); n != f.Got {
			t.Fatalf("%s: the fill %d is %v; %d may be filled", what, i, f, n)
		}
		if g, e := step.Do(f.Seq, a.from, a.to, f.Got); g != f || e != api.OK {
			t.Fatalf("%s: the fill %d is %v, %v; not %v", what, i, g, e, f)
		}
		positions[a.give][a.from] -= f.Given
		positions[a.give][o.Owner] += f.Given
		positions[a.get][o.Owner] -= f.Got
		positions[a.get][a.to] += f.Got
		got += f.Got
		given += f.Given
	}
	if got != a.n || given > a.most || given != swaps.Given(list) {
		t.Fatalf("%s: %d for %d, given %d", what, got, given, swaps.Given(list))
	}
	stockOf(step).holds(t, what, after)
	moved(t, what, positions, after)
	bounded(t, what, h.L.Lines(), after.L.Lines())
}

// moved asks whether all stand where they should, to a sum of 0.
func moved(t *testing.T, what string, positions standing, h fills.House) {
	t.Helper()
	for c, row := range stands(h.L) {
		sum := int64(0)
		for p, got := range row {
			if sum += got; got != positions[c][p] {
				t.Fatalf("%s: %d stands at %d of %d, not %d", what, p, got, c, positions[c][p])
			}
		}
		if sum != 0 {
			t.Fatalf("%s: positions of %d come to %d", what, c, sum)
		}
	}
}

// bounded asks whether the lines have the limits they had, and each debt lies from 0 to its limit.
func bounded(t *testing.T, what string, was, is []api.Line) {
	t.Helper()
	if len(is) != len(was) {
		t.Fatalf("%s: %d lines, not %d", what, len(is), len(was))
	}
	for i, x := range is {
		y := was[i]
		if y.Debt = x.Debt; x != y || x.Debt < 0 || x.Debt > x.Limit {
			t.Fatalf("%s: the line %v was %v", what, x, was[i])
		}
	}
}

// asked holds a swap against a plain one: the house as it is by then, which is the one that was, if it does not go.
func asked(t *testing.T, what string, h fills.House, a ask, came map[string]int) fills.House {
	t.Helper()
	want, list, e := plain(h, a)
	came[e.Error()]++
	if e != api.OK {
		refused(t, what, h, a, e)
		return h
	}
	after := done(t, what, h, a, list...)
	stockOf(want).holds(t, what, after)
	follows(t, what, h, after, a, list)
	edges(t, what, h, a, list)
	tell(came, h, a, list)
	return after
}

// edges of how much was given: just as much, and one less.
func edges(t *testing.T, what string, h fills.House, a ask, list []fills.Fill) {
	t.Helper()
	a.most = swaps.Given(list)
	done(t, what, h, a, list...)
	if a.most--; a.most > 0 {
		refused(t, what, h, a, api.ErrMax)
	}
}

// tell of what kind a swap was.
func tell(came map[string]int, h fills.House, a ask, list []fills.Fill) {
	if len(list) > 1 {
		came["several fills"]++
	}
	if len(list) > 2 {
		came["many fills"]++
	}
	if a.from == a.to {
		came["toward oneself"]++
	}
	first := list[0].Seq
	for _, o := range h.B.Best(a.get, a.give) {
		if o.Seq == first {
			break
		}
		came["passed over"]++
		if o.Owner == a.from {
			came["own passed over"]++
		}
	}
	rates := map[api.Rat]bool{}
	for _, f := range list {
		o, _ := h.B.Find(f.Seq)
		if o.Left == f.Got {
			came["all that is left"]++
		}
		if o.Owner == a.to {
			came["toward an owner"]++
		}
		if rates[o.Rate] {
			came["of one rate"]++
		}
		rates[o.Rate] = true
	}
}

// P11.1 to P11.3: swaps one behind the other, of few parties, and of more.
func TestWalk(t *testing.T) {
	came := map[string]int{}
	for seed := range 300 {
		d := dice(seed)
		high := []int64{9, 60, 60, amount}[d.below(4)]
		parties := d.some(3 + d.below(4))
		h := stock{parties, d.lines(parties, 30+10*d.below(7), high), d.offers(parties, high), 99}.house(t)
		for i := range 20 {
			h = asked(t, fmt.Sprintf("walk %d, step %d", seed, i), h, d.ask(parties, high), came)
			if d.below(3) == 0 { // so that there is something to be filled of those that were passed over
				pair := d.pair()
				h.L.Trust(parties[d.below(len(parties))], parties[d.below(len(parties))], pair[0], 1+d.upTo(high-1))
				h.B.Place(parties[d.below(len(parties))], pair[0], pair[1], 1+d.upTo(high-1), d.rate(9))
			}
		}
	}
	for _, what := range []string{
		api.OK.Error(), api.ErrNone.Error(), api.ErrRoute.Error(), api.ErrMax.Error(), "several fills", "many fills", "toward oneself", "toward an owner",
		"passed over", "own passed over", "all that is left", "of one rate",
	} {
		if came[what] < 50 {
			t.Errorf("%s: %d times only", what, came[what])
		}
	}
}

// P11.1: walks where fills come to MaxFills, and more, as each gets one at most.
func TestWalkOfMany(t *testing.T) {
	came := map[string]int{}
	for seed := range 20 {
		d := dice(seed)
		var offers []api.Offer
		cheap := uint64(1 + d.below(12))
		for i := range cheap {
			offers = append(offers, offer(i+1, 2, 1+d.upTo(1), 1+d.upTo(9), 1))
		}
		for i := range uint64(3) {
			offers = append(offers, offer(cheap+i+1, 2, 10+d.upTo(30), term/2+1+d.upTo(2), 1))
		}
		h := stocked(all(), broad(), offers...).house(t)
		for range 6 {
			a := ask{1, []api.Party{2, 16}[d.below(2)], 1, 2, 55 + d.upTo(30), amount}
			asked(t, fmt.Sprintf("walk %d", seed), h, a, came)
		}
	}
	for _, e := range []api.Errno{api.ErrRoute, api.ErrMax, api.ErrQuota} {
		if came[e.Error()] < 10 {
			t.Errorf("%v: %d times only", e, came[e.Error()])
		}
	}
}

// P11.1: whatever is handed in, with a house as it comes.
func TestWalkOfWrong(t *testing.T) {
	came := map[string]int{}
	for seed := range 200 {
		d := dice(seed)
		parties := d.some(5)
		h := stock{parties, d.lines(parties, 60, 9), d.offers(parties, 9), 99}.house(t)
		for i := range 60 {
			number := func() int64 {
				return []int64{least, -1, 0, 1, 1, 2, 3, amount, amount, amount + 1, most}[d.below(11)]
			}
			party := func() api.Party {
				if d.below(3) > 0 {
					return parties[d.below(5)]
				}
				return api.Party(d.below(19))
			}
			a := ask{party(), party(), api.Currency(d.below(4)), api.Currency(d.below(10)), number(), number()}
			what := fmt.Sprintf("walk %d, step %d", seed, i)
			if wrong(a) {
				came[api.ErrArg.Error()]++
				refused(t, what, h, a, api.ErrArg)
				continue
			}
			asked(t, what, h, a, came)
		}
	}
	for _, e := range []api.Errno{api.OK, api.ErrArg, api.ErrNone, api.ErrRoute} {
		if came[e.Error()] < 30 {
			t.Errorf("%v: %d times only", e, came[e.Error()])
		}
	}
}

// wrong asks whether there may be no such swap.
func wrong(a ask) bool {
	for _, p := range []api.Party{a.from, a.to} {
		if !slices.Contains(all(), p) {
			return true
		}
	}
	for _, c := range []api.Currency{a.get, a.give} {
		if c == 0 || c > 8 {
			return true
		}
	}
	for _, n := range []int64{a.n, a.most} {
		if n <= 0 || n > 1099511627776 {
			return true
		}
	}
	return a.get == a.give
}
