package fills_test

import (
	"fmt"
	"math/big"
	"slices"
	"sort"
	"testing"

	"countinghouse/api"
	"countinghouse/fills"
	"countinghouse/ledgers"
	"countinghouse/payments"
)

// dice throws the same numbers in each run.
type dice uint64

func (d *dice) below(n int) int {
	*d = *d*6364136223846793005 + 1442695040888963407
	return int(*d >> 33 % dice(n))
}

// upTo is from 0 to a number that is allowed itself.
func (d *dice) upTo(high int64) int64 {
	return (int64(d.below(1<<30))<<20 + int64(d.below(1<<20))) % (high + 1)
}

// some parties, rising.
func (d *dice) some(n int) []api.Party {
	l := all()
	for len(l) > n {
		at := d.below(len(l))
		l = slices.Delete(l, at, at+1)
	}
	return l
}

// lines of the currencies 1, 2 and 8, some both ways, of which something is owed, now and then by both to one another.
func (d *dice) lines(parties []api.Party, dense int, high int64) []api.Line {
	var lines []api.Line
	for _, c := range []api.Currency{1, 2, 8} {
		for _, a := range parties {
			for _, b := range parties {
				if a == b || d.below(100) >= dense || len(lines) == api.MaxLines {
					continue
				}
				x := line(c, a, b, 1+d.upTo(high-1), 0)
				x.Debt = min(x.Limit, d.upTo(high))
				lines = append(lines, x)
			}
		}
	}
	return lines
}

// rate is one of a few, or of any terms up to a number.
func (d *dice) rate(high int64) api.Rat {
	if d.below(2) == 0 {
		return []api.Rat{{Num: 1, Den: 1}, {Num: 3, Den: 2}, {Num: 2, Den: 3}, {Num: 7, Den: 1}, {Num: 1, Den: 7}, {Num: term, Den: 9}}[d.below(6)]
	}
	x := big.NewRat(1+d.upTo(high-1), 1+d.upTo(high-1))
	return api.Rat{Num: x.Num().Int64(), Den: x.Denom().Int64()}
}

// offers of the ledger's parties, now and then of somebody else.
func (d *dice) offers(parties []api.Party, high int64) (list []api.Offer) {
	pairs := [][2]api.Currency{{1, 2}, {2, 1}, {1, 8}, {8, 2}}
	for seq := range uint64(8) {
		owner := parties[d.below(len(parties))]
		if d.below(15) == 0 {
			owner = all()[d.below(16)]
		}
		pair := pairs[d.below(4)]
		list = append(list, api.Offer{Seq: seq + 1, Owner: owner, Sell: pair[0], Buy: pair[1], Left: 1 + d.upTo(high-1), Rate: d.rate([]int64{9, term}[d.below(2)])})
	}
	return list
}

// ceiling of so much times a rate.
func ceiling(n int64, r api.Rat) *big.Int {
	top := new(big.Int).Mul(big.NewInt(n), big.NewInt(r.Num))
	q, m := new(big.Int).DivMod(top, big.NewInt(r.Den), new(big.Int))
	return q.Add(q, big.NewInt(int64(m.Sign())))
}

// fitting is the most, up to so much, that costs no more than may be given.
func fitting(upTo, give int64, r api.Rat) int64 {
	return int64(sort.Search(int(upTo), func(i int) bool { return ceiling(int64(i)+1, r).Cmp(big.NewInt(give)) > 0 }))
}

// narrowest is the least of what may go outward by a ledger's lines, together, from any of its parties that from is among, and to is not.
func narrowest(l *ledgers.Ledger, from, to api.Party, c api.Currency) int64 {
	best := int64(most)
	parties, lines := l.Parties(), l.Lines()
	for set := range 1 << len(parties) {
		var inside [256]bool
		for i, p := range parties {
			inside[p] = set>>i&1 == 1
		}
		if !inside[from] || inside[to] {
			continue
		}
		sum := int64(0)
		for _, x := range lines {
			switch {
			case x.Currency != c:
			case inside[x.Debtor] && !inside[x.Creditor]: // more may be owed
				sum += x.Limit - x.Debt
			case inside[x.Creditor] && !inside[x.Debtor]: // what is owed may go back
				sum += x.Debt
			}
		}
		best = min(best, sum)
	}
	return best
}

// find an offer among all.
func find(h fills.House, seq uint64) (api.Offer, bool) {
	for _, o := range h.B.All() {
		if o.Seq == seq {
			return o, true
		}
	}
	return api.Offer{}, false
}

// Which bound is the least one.
const (
	byNone = iota // there may be no such fill
	byWant
	byLeft
	bySold
	byMost
	byBought
	byAmount
	kinds
)

// counted is how much may be filled, by the document's words, and which bound it is alone.
func counted(h fills.House, seq uint64, taker, to api.Party, want, give int64) (int64, int) {
	o, there := find(h, seq)
	if !there || o.Owner == taker || want <= 0 || give <= 0 {
		return 0, byNone
	}
	for _, p := range []api.Party{o.Owner, taker, to} {
		if !slices.Contains(h.L.Parties(), p) {
			return 0, byNone
		}
	}
	bounds := [kinds]int64{byNone: most, byWant: want, byLeft: o.Left, bySold: amount}
	if to != o.Owner {
		bounds[bySold] = narrowest(h.L, o.Owner, to, o.Sell)
	}
	bounds[byMost] = fitting(amount, give, o.Rate)
	bounds[byBought] = fitting(amount, narrowest(h.L, taker, o.Owner, o.Buy), o.Rate)
	bounds[byAmount] = fitting(amount, amount, o.Rate)
	n, alone := slices.Min(bounds[:]), byNone
	for i, b := range bounds {
		if b == n && alone != byNone {
			return n, byNone // more than one
		}
		if b == n {
			alone = i
		}
	}
	return n, alone
}

// A standing is all parties' positions, those that are none of the ledger's too, in all currencies.
type standing map[api.Currency]map[api.Party]int64

func stands(l *ledgers.Ledger) standing {
	s := standing{}
	for c := range api.Currency(8) {
		s[c+1] = map[api.Party]int64{}
		for _, p := range all() {
			s[c+1][p] = l.Position(p, c+1)
		}
	}
	return s
}

// filled does a fill that may be, and holds all that the document says of it.
func filled(t *testing.T, what string, h fills.House, seq uint64, taker, to api.Party, n int64) {
	t.Helper()
	o, _ := find(h, seq)
	given := ceiling(n, o.Rate).Int64()
	was, positions := stockOf(h), stands(h.L)
	// As if each payment came by itself, the other way about.
	l := h.L.Copy()
	if _, e := payments.Pay(l, taker, o.Owner, o.Buy, given); e != api.OK {
		t.Fatalf("%s: of what is bought: %v", what, e)
	}
	positions[o.Buy][taker] -= given
	positions[o.Buy][o.Owner] += given
	if to != o.Owner {
		if _, e := payments.Pay(l, o.Owner, to, o.Sell, n); e != api.OK {
			t.Fatalf("%s: of what is sold: %v", what, e)
		}
		positions[o.Sell][o.Owner] -= n
		positions[o.Sell][to] += n
	}
	was.lines = l.Lines()
	was.offers = less(was.offers, seq, n)
	done(t, what, h, seq, taker, to, n, given)
	was.holds(t, what, h)
	for c, row := range stands(h.L) {
		for p, got := range row {
			if got != positions[c][p] {
				t.Fatalf("%s: %d stands at %d of %d, not %d", what, p, got, c, positions[c][p])
			}
		}
	}
	enough(t, what, n, given, o.Rate)
}

// less are offers of which one has so much less left; of nothing it is no more.
func less(offers []api.Offer, seq uint64, n int64) (list []api.Offer) {
	for _, o := range offers {
		if o.Seq == seq {
			o.Left -= n
		}
		if o.Left > 0 {
			list = append(list, o)
		}
	}
	return list
}

// enough asks whether the owner gets the rate times what they give at least, and less than one more.
func enough(t *testing.T, what string, n, given int64, r api.Rat) {
	t.Helper()
	exact := new(big.Rat).Mul(big.NewRat(n, 1), big.NewRat(r.Num, r.Den))
	over := exact.Sub(big.NewRat(given, 1), exact)
	if over.Sign() < 0 || over.Cmp(big.NewRat(1, 1)) >= 0 {
		t.Fatalf("%s: %d for %d at %v", what, n, given, r)
	}
}

// bounded asks whether the lines have the limits they had, and each debt lies from 0 to its limit.
func bounded(t *testing.T, what string, was, is []api.Line) {
	t.Helper()
	if len(is) != len(was) {
		t.Fatalf("%s: %d lines, not %d", what, len(is), len(was))
	}
	for i, x := range is {
		y := was[i]
		if y.Debt = x.Debt; x != y || x.Debt < 0 || x.Debt > x.Limit {
			t.Fatalf("%s: the line %v was %v", what, x, was[i])
		}
	}
}

// A thrown one is what is asked for.
type thrown struct {
	seq        uint64
	taker, to  api.Party
	want, give int64
}

// throw of a house with those parties: now and then toward the taker, or the owner, or of what may not be.
func (d *dice) throw(h fills.House, parties []api.Party) thrown {
	anyone := func() api.Party {
		if d.below(25) == 0 {
			return api.Party(d.below(18))
		}
		return parties[d.below(len(parties))]
	}
	x := thrown{seq: uint64(d.below(10)), taker: anyone(), to: anyone()}
	o, _ := find(h, x.seq)
	switch d.below(5) {
	case 0:
		x.to = x.taker
	case 1:
		x.to = o.Owner
	}
	x.want = []int64{most, most, o.Left, o.Left - 1, o.Left + 1, 1, 2, 1 + d.upTo(o.Left), d.upTo(1), -1}[d.below(10)]
	x.give = []int64{most, most, amount, amount + 1, 1, 2, 1 + d.upTo(30), 1 + d.upTo(amount), d.upTo(1), least}[d.below(10)]
	return x
}

// P10.1 to P10.4: fills one behind the other, of just as much as may be filled, less, or one more.
func TestWalk(t *testing.T) {
	alone := [kinds]int{}
	went := map[string]int{}
	for seed := range 150 {
		d := dice(seed)
		high := []int64{9, 60, amount, amount}[d.below(4)]
		parties := d.some(5)
		was := stock{parties, d.lines(parties, 30+10*d.below(6), high), d.offers(parties, high), 9}
		h := was.house(t)
		for i := range 40 {
			what := fmt.Sprintf("walk %d, step %d", seed, i)
			x := d.throw(h, parties)
			n, bound := counted(h, x.seq, x.taker, x.to, x.want, x.give)
			may(t, what, h, x.seq, x.taker, x.to, x.want, x.give, n)
			alone[bound]++
			top, _ := counted(h, x.seq, x.taker, x.to, most, amount)
			refused(t, what, h, x.seq, x.taker, x.to, top+1, api.ErrArg)
			if n == 0 {
				went["nothing"]++
				continue
			}
			filled(t, what+", all of it", h.Copy(), x.seq, x.taker, x.to, top)
			n = []int64{n, 1 + d.upTo(n-1), 1}[d.below(3)]
			o, _ := find(h, x.seq)
			filled(t, what, h, x.seq, x.taker, x.to, n)
			bounded(t, what, was.lines, h.L.Lines())
			tell(went, o, x, n)
		}
	}
	for i, n := range alone {
		if n < 10 {
			t.Errorf("the bound %d was the least one %d times only", i, n)
		}
	}
	for _, what := range []string{"nothing", "to the taker", "to the owner", "to another one", "all that is left", "raised", "just so"} {
		if went[what] < 100 {
			t.Errorf("%s: %d times only", what, went[what])
		}
	}
}

// tell of what kind a fill was.
func tell(went map[string]int, o api.Offer, x thrown, n int64) {
	switch x.to {
	case x.taker:
		went["to the taker"]++
	case o.Owner:
		went["to the owner"]++
	default:
		went["to another one"]++
	}
	if n == o.Left {
		went["all that is left"]++
	}
	if n%o.Rate.Den == 0 {
		went["just so"]++
	} else {
		went["raised"]++
	}
}

// P10.1, P10.2: whatever is handed in, one behind the other.
func TestWalkOfWrong(t *testing.T) {
	came := map[api.Errno]int{}
	for seed := range 60 {
		d := dice(seed)
		parties := d.some(6)
		was := stock{parties, d.lines(parties, 50, 9), d.offers(parties, 9), 9}
		h := was.house(t)
		for i := range 100 {
			seq, taker, to := uint64(d.below(11)), api.Party(d.below(18)), api.Party(d.below(18))
			if d.below(2) == 0 {
				taker, to = parties[d.below(6)], parties[d.below(6)]
			}
			n := []int64{least, -1, 0, 1, 1, 2, 3, amount, amount + 1, most}[d.below(10)]
			what := fmt.Sprintf("walk %d, step %d", seed, i)
			if top, _ := counted(h, seq, taker, to, n, amount); n < 1 || top < n {
				came[api.ErrArg]++
				refused(t, what, h, seq, taker, to, n, api.ErrArg)
				continue
			}
			came[api.OK]++
			filled(t, what, h, seq, taker, to, n)
			bounded(t, what, was.lines, h.L.Lines())
		}
	}
	if came[api.OK] < 200 || came[api.ErrArg] < 1000 {
		t.Errorf("%v came", came)
	}
}
