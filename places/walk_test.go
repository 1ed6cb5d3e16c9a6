package places_test

import (
	"fmt"
	"math/big"
	"slices"
	"testing"

	"countinghouse/api"
	"countinghouse/fills"
	"countinghouse/ledgers"
)

// dice throws the same numbers in each run.
type dice uint64

func (d *dice) below(n int) int {
	*d = *d*6364136223846793005 + 1442695040888963407
	return int(*d >> 33 % dice(n))
}

// upTo is from 0 to a number that is allowed itself.
func (d *dice) upTo(high int64) int64 {
	return (int64(d.below(1<<30))<<20 + int64(d.below(1<<20))) % (high + 1)
}

// some parties, rising.
func (d *dice) some(n int) []api.Party {
	l := all()
	for len(l) > n {
		at := d.below(len(l))
		l = slices.Delete(l, at, at+1)
	}
	return l
}

// lines of the currencies 1, 2 and 8, some both ways, of which something is owed, now and then by both to one another.
func (d *dice) lines(parties []api.Party, dense int, high int64) []api.Line {
	var lines []api.Line
	for _, c := range []api.Currency{1, 2, 8} {
		for _, a := range parties {
			for _, b := range parties {
				if a == b || d.below(100) >= dense || len(lines) == api.MaxLines {
					continue
				}
				x := line(c, a, b, 1+d.upTo(high-1), 0)
				x.Debt = min(x.Limit, d.upTo(high))
				lines = append(lines, x)
			}
		}
	}
	return lines
}

// rate is mostly one of a few, of which each has its inverse among them, so that offers of one rate come, and of just the inverse one.
func (d *dice) rate(high int64) api.Rat {
	if d.below(4) > 0 {
		return []api.Rat{{Num: 1, Den: 1}, {Num: 3, Den: 2}, {Num: 2, Den: 3}, {Num: 2, Den: 1}, {Num: 1, Den: 2}, {Num: 5, Den: 7}, {Num: 7, Den: 5}}[d.below(7)]
	}
	x := big.NewRat(1+d.upTo(high-1), 1+d.upTo(high-1))
	return api.Rat{Num: x.Num().Int64(), Den: x.Denom().Int64()}
}

// pair of currencies that is sold and bought: mostly the first one.
func (d *dice) pair() [2]api.Currency {
	return [][2]api.Currency{{1, 2}, {1, 2}, {1, 2}, {2, 1}, {8, 2}, {1, 8}}[d.below(6)]
}

// offers of the ledger's parties, now and then of somebody else.
func (d *dice) offers(parties []api.Party, high int64) (list []api.Offer) {
	for seq := range uint64(12) {
		owner := parties[d.below(len(parties))]
		if d.below(15) == 0 {
			owner = all()[d.below(16)]
		}
		pair := d.pair()
		list = append(list, api.Offer{Seq: seq + 1, Owner: owner, Sell: pair[0], Buy: pair[1], Left: 1 + d.upTo(high-1), Rate: d.rate([]int64{9, term}[d.below(2)])})
	}
	return list
}

// comes is an offer that may be, mostly the other way about, now and then of somebody who is none of the ledger's.
func (d *dice) comes(parties []api.Party, high int64) api.Offer {
	pair := d.pair()
	o := api.Offer{Seq: uint64(d.below(15)), Owner: parties[d.below(len(parties))], Sell: pair[1], Buy: pair[0], Rate: d.rate([]int64{9, term}[d.below(2)])}
	if d.below(30) == 0 {
		o.Owner = all()[d.below(16)]
	}
	if d.below(3) == 0 { // so that many stand against it
		o.Rate = api.Rat{Num: 1, Den: 1 + d.upTo(8)}
	}
	o.Left = []int64{1, 2, 1 + d.upTo(high-1), 1 + d.upTo(high-1), 1 + d.upTo(high/4), high}[d.below(6)]
	return o
}

func fraction(r api.Rat) *big.Rat { return big.NewRat(r.Num, r.Den) }

// lesser asks whether one rate is less than another one.
func lesser(a, b api.Rat) bool { return fraction(a).Cmp(fraction(b)) < 0 }

// better asks whether an offer comes ahead of another one, of the same currencies.
func better(a, b api.Offer) bool {
	return lesser(a.Rate, b.Rate) || !lesser(b.Rate, a.Rate) && a.Seq < b.Seq
}

// against asks whether an offer stands against one that comes: what one of both gives for the other one is no less than what that one asks.
func against(stands, o api.Offer) bool {
	both := new(big.Rat).Mul(fraction(stands.Rate), fraction(o.Rate))
	return stands.Sell == o.Buy && stands.Buy == o.Sell && both.Cmp(big.NewRat(1, 1)) <= 0
}

// best one against it of which something may be filled, found among all that stand, in no order.
func best(h fills.House, o api.Offer) (x api.Offer, n int64) {
	for _, y := range h.B.All() {
		if !against(y, o) || n > 0 && better(x, y) {
			continue
		}
		if m := h.May(y.Seq, o.Owner, o.Owner, amount, o.Left); m > 0 {
			x, n = y, m
		}
	}
	return x, n
}

// plain is what the chapter's words say of an offer that may be.
func plain(h fills.House, o api.Offer) (fills.House, []fills.Fill, uint64, api.Errno) {
	if !slices.Contains(h.L.Parties(), o.Owner) {
		return fills.House{}, nil, 0, api.ErrNone
	}
	after := h.Copy()
	var list []fills.Fill
	for o.Left > 0 {
		x, n := best(after, o)
		if n == 0 {
			break
		}
		if len(list) == 64 {
			return fills.House{}, nil, 0, api.ErrQuota
		}
		f, e := after.Do(x.Seq, o.Owner, o.Owner, n)
		if e != api.OK {
			panic(e)
		}
		list = append(list, f)
		o.Left -= f.Given
	}
	if o.Left == 0 {
		return after, list, 0, api.OK
	}
	seq, e := after.B.Place(o.Owner, o.Sell, o.Buy, o.Left, o.Rate)
	if e != api.OK {
		return fills.House{}, nil, 0, e
	}
	return after, list, seq, api.OK
}

// A standing is all parties' positions, those that are none of the ledger's too, in all currencies.
type standing map[api.Currency]map[api.Party]int64

func stands(l *ledgers.Ledger) standing {
	s := standing{}
	for c := range api.Currency(8) {
		s[c+1] = map[api.Party]int64{}
		for _, p := range all() {
			s[c+1][p] = l.Position(p, c+1)
		}
	}
	return s
}

// find an offer among all.
func find(t *testing.T, what string, h fills.House, seq uint64) api.Offer {
	t.Helper()
	for _, o := range h.B.All() {
		if o.Seq == seq {
			return o
		}
	}
	t.Fatalf("%s: no offer %d", what, seq)
	return api.Offer{}
}

// enough asks whether the owner gets more than the rate times what is given, less one: that much less one of what is given.
func enough(o api.Offer, f fills.Fill) bool {
	bound := new(big.Rat).Mul(fraction(o.Rate), big.NewRat(f.Given-1, 1))
	return big.NewRat(f.Got, 1).Cmp(bound) > 0
}

// follows holds all that the document says of an offer that came.
func follows(t *testing.T, what string, h, after fills.House, o api.Offer, list []fills.Fill, number uint64) {
	t.Helper()
	positions, step, left, seen := stands(h.L), h.Copy(), o.Left, map[uint64]bool{}
	for i, f := range list {
		x := find(t, what, step, f.Seq)
		if f.Taker != o.Owner || f.To != o.Owner || !against(x, o) || x.Owner == o.Owner || seen[x.Seq] {
			t.Fatalf("%s: the fill %d is %v, of %v", what, i, f, x)
		}
		for _, y := range step.B.All() {
			if y.Sell == x.Sell && y.Buy == x.Buy && better(y, x) && step.May(y.Seq, o.Owner, o.Owner, amount, left) != 0 {
				t.Fatalf("%s: the fill %d is %v, of %v; better is %v", what, i, f, x, y)
			}
		}
		if n := step.May(f.Seq, o.Owner, o.Owner, amount, left); n != f.Got || !enough(o, f) {
			t.Fatalf("%s: the fill %d is %v; %d may be filled", what, i, f, n)
		}
		if g, e := step.Do(f.Seq, o.Owner, o.Owner, f.Got); g != f || e != api.OK {
			t.Fatalf("%s: the fill %d is %v, %v; not %v", what, i, g, e, f)
		}
		positions[o.Sell][o.Owner] -= f.Given
		positions[o.Sell][x.Owner] += f.Given
		positions[o.Buy][x.Owner] -= f.Got
		positions[o.Buy][o.Owner] += f.Got
		left -= f.Given
		seen[x.Seq] = true
	}
	stockOf(step).with(o, left).holds(t, what, after)
	moved(t, what, positions, after)
	bounded(t, what, h.L.Lines(), after.L.Lines())
	behind(t, what, after, o, left, number)
}

// behind it either nothing is left of it, or the rest is placed, and nothing against it may be filled, so that it would stand as it is if it came again.
func behind(t *testing.T, what string, after fills.House, o api.Offer, left int64, number uint64) {
	t.Helper()
	if left == 0 && number == 0 {
		return
	}
	placed := find(t, what, after, number)
	if placed.Left != left || placed.Owner != o.Owner || placed.Rate != o.Rate || placed.Sell != o.Sell || placed.Buy != o.Buy {
		t.Fatalf("%s: %v is placed, and %d left", what, placed, left)
	}
	for _, x := range after.B.All() {
		if against(x, o) && after.May(x.Seq, o.Owner, o.Owner, amount, left) != 0 {
			t.Fatalf("%s: %v stands against %v", what, x, placed)
		}
	}
	again := after.Copy()
	if n, e := again.B.Cancel(o.Owner, number); n != left || e != api.OK {
		t.Fatalf("%s: %d, %v of the offer %d", what, n, e, number)
	}
	if o.Left = left; again.B.Next() < last {
		done(t, what, again, o, again.B.Next())
	}
}

// moved asks whether all stand where they should, to a sum of 0.
func moved(t *testing.T, what string, positions standing, h fills.House) {
	t.Helper()
	for c, row := range stands(h.L) {
		sum := int64(0)
		for p, got := range row {
			if sum += got; got != positions[c][p] {
				t.Fatalf("%s: %d stands at %d of %d, not %d", what, p, got, c, positions[c][p])
			}
		}
		if sum != 0 {
			t.Fatalf("%s: positions of %d come to %d", what, c, sum)
		}
	}
}

// bounded asks whether the lines have the limits they had, and each debt lies from 0 to its limit.
func bounded(t *testing.T, what string, was, is []api.Line) {
	t.Helper()
	if len(is) != len(was) {
		t.Fatalf("%s: %d lines, not %d", what, len(is), len(was))
	}
	for i, x := range is {
		y := was[i]
		if y.Debt = x.Debt; x != y || x.Debt < 0 || x.Debt > x.Limit {
			t.Fatalf("%s: the line %v was %v", what, x, was[i])
		}
	}
}

// asked holds an offer that comes against a plain one: the house as it is by then, which is the one that was, if it may not be placed.
func asked(t *testing.T, what string, h fills.House, o api.Offer, came map[string]int) fills.House {
	t.Helper()
	want, list, number, e := plain(h, o)
	came[e.Error()]++
	if e != api.OK {
		if e == api.ErrFull && fillable(h, o) {
			came["fills in a book that is full"]++
		}
		refused(t, what, h, o, e)
		return h
	}
	after := done(t, what, h, o, number, list...)
	stockOf(want).holds(t, what, after)
	follows(t, what, h, after, o, list, number)
	tell(came, h, after, o, list, number)
	return after
}

func fillable(h fills.House, o api.Offer) bool {
	_, n := best(h, o)
	return n > 0
}

// tell of what kind an offer was.
func tell(came map[string]int, h, after fills.House, o api.Offer, list []fills.Fill, number uint64) {
	came[[]string{"no fill", "one fill", "several fills", "many fills"}[min(len(list), 3)]]++
	switch {
	case number == 0:
		came["nothing placed"]++
	case len(list) > 0:
		came["placed in part"]++
	default:
		came["placed whole"]++
	}
	beside(came, h, o, list)
	rates := map[api.Rat]bool{}
	for _, f := range list {
		x, _ := h.B.Find(f.Seq)
		if x.Left == f.Got {
			came["all that is left"]++
		} else if number > 0 {
			came["both stay"]++
		}
		if x.Rate == (api.Rat{Num: o.Rate.Den, Den: o.Rate.Num}) {
			came["just the inverse"]++
		}
		if rates[x.Rate] {
			came["of one rate"]++
		}
		rates[x.Rate] = true
	}
}

// beside tells of those the other way about that were not filled.
func beside(came map[string]int, h fills.House, o api.Offer, list []fills.Fill) {
	for _, x := range h.B.All() {
		filled := slices.ContainsFunc(list, func(f fills.Fill) bool { return f.Seq == x.Seq })
		switch {
		case x.Sell != o.Buy || x.Buy != o.Sell || filled:
		case !against(x, o):
			came["too great"]++
			if h.May(x.Seq, o.Owner, o.Owner, amount, o.Left) > 0 {
				came["too great alone"]++
			}
		case x.Owner == o.Owner:
			came["own passed over"]++
		case len(list) > 0:
			if y, _ := h.B.Find(list[len(list)-1].Seq); better(x, y) {
				came["passed over"]++
			}
		}
	}
}

// P12.1, P12.2: offers that come one behind the other, among few parties, and among more.
func TestWalk(t *testing.T) {
	came := map[string]int{}
	for seed := range 300 {
		d := dice(seed)
		high := []int64{9, 60, 60, amount}[d.below(4)]
		parties := d.some(3 + d.below(4))
		h := stock{parties, d.lines(parties, 30+10*d.below(7), high), d.offers(parties, high), []uint64{13, 99, last - 9}[d.below(3)]}.house(t)
		for i := range 20 {
			h = asked(t, fmt.Sprintf("walk %d, step %d", seed, i), h, d.comes(parties, high), came)
			if d.below(3) == 0 { // so that there is something to be filled of those that were passed over
				pair := d.pair()
				h.L.Trust(parties[d.below(len(parties))], parties[d.below(len(parties))], pair[0], 1+d.upTo(high-1))
				h.B.Place(parties[d.below(len(parties))], pair[0], pair[1], 1+d.upTo(high-1), d.rate(9))
			}
		}
	}
	for _, what := range []string{
		api.OK.Error(), api.ErrNone.Error(), api.ErrFull.Error(), "fills in a book that is full", "no fill", "one fill", "several fills", "many fills",
		"nothing placed", "placed in part", "placed whole", "all that is left", "both stay", "just the inverse", "of one rate", "too great", "too great alone", "own passed over", "passed over",
	} {
		if came[what] < 40 {
			t.Errorf("%s: %d times only", what, came[what])
		}
	}
}

// P12.1: walks with as many against it as a book may have.
func TestWalkOfMany(t *testing.T) {
	came := map[string]int{}
	for seed := range 60 {
		d := dice(seed)
		high := []int64{9, 60, amount}[d.below(3)]
		var offers []api.Offer
		for i := range uint64(24 + d.below(9)) {
			offers = append(offers, offer(i+1, []api.Party{1, 2, 4, 5, 5}[d.below(5)], 1+d.upTo(high/9), 1, 1))
			offers[i].Rate = d.rate(9)
		}
		h := stocked(all()[:5], wide(), offers...).house(t)
		o := comes(1+d.upTo(high), 1, 9)
		o.Rate = d.rate(9)
		asked(t, fmt.Sprintf("walk %d", seed), h, o, came)
		o.Left, o.Rate = amount, api.Rat{Num: 1, Den: 9}
		asked(t, fmt.Sprintf("walk %d, of all", seed), h, o, came)
	}
	for _, what := range []string{"many fills", "placed in part", "nothing placed"} {
		if came[what] < 10 {
			t.Errorf("%s: %d times only", what, came[what])
		}
	}
}

// P12.1: whatever is handed in, with a house as it comes.
func TestWalkOfWrong(t *testing.T) {
	came := map[string]int{}
	for seed := range 200 {
		d := dice(seed)
		parties := d.some(5)
		h := stock{parties, d.lines(parties, 60, 9), d.offers(parties, 9), 99}.house(t)
		for i := range 60 {
			number := func() int64 {
				return []int64{1, 1, 1, 2, 2, 3, 4, 7, amount, 9, least, -1, 0, amount + 1, most}[d.below(15)]
			}
			o := api.Offer{Seq: uint64(d.below(120)), Owner: parties[d.below(5)], Sell: api.Currency(d.below(4)), Buy: api.Currency(d.below(10)), Left: number(), Rate: api.Rat{Num: number(), Den: number()}}
			if d.below(3) == 0 {
				o.Owner = api.Party(d.below(19))
			}
			if d.below(3) > 0 {
				o.Sell, o.Buy = 2, 1
			}
			what := fmt.Sprintf("walk %d, step %d", seed, i)
			if wrong(o) {
				came[api.ErrArg.Error()]++
				refused(t, what, h, o, api.ErrArg)
				continue
			}
			asked(t, what, h, o, came)
		}
	}
	for _, what := range []string{api.OK.Error(), api.ErrArg.Error(), api.ErrNone.Error(), "one fill", "placed whole"} {
		if came[what] < 30 {
			t.Errorf("%s: %d times only", what, came[what])
		}
	}
}

// wrong asks whether there may be no such offer.
func wrong(o api.Offer) bool {
	if o.Owner < 1 || o.Owner > 16 || o.Sell < 1 || o.Sell > 8 || o.Buy < 1 || o.Buy > 8 || o.Sell == o.Buy {
		return true
	}
	for _, n := range []int64{o.Left, o.Rate.Num, o.Rate.Den} {
		if n < 1 || n > 1099511627776 {
			return true
		}
	}
	divides := new(big.Int).GCD(nil, nil, big.NewInt(o.Rate.Num), big.NewInt(o.Rate.Den))
	return divides.Int64() != 1
}
