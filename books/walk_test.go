package books_test

import (
	"fmt"
	"math/big"
	"slices"
	"testing"

	"countinghouse/api"
	"countinghouse/books"
)

// plain is a book as the document's words have it.
type plain struct {
	offers map[uint64]api.Offer
	next   uint64
}

// numbers of all offers, rising.
func (b *plain) numbers() []uint64 {
	var l []uint64
	for seq := range b.offers {
		l = append(l, seq)
	}
	slices.Sort(l)
	return l
}

func (b *plain) all() []api.Offer {
	var l []api.Offer
	for _, seq := range b.numbers() {
		l = append(l, b.offers[seq])
	}
	return l
}

// exact is a rate whose terms are above 0, as a fraction of any length.
func exact(r api.Rat) *big.Rat { return big.NewRat(r.Num, r.Den) }

// best puts one behind the other: always the one of the least rate that is left, of one rate the one of the least number.
func (b *plain) best(sell, buy api.Currency) []api.Offer {
	var of, l []api.Offer
	for _, o := range b.all() {
		if o.Sell == sell && o.Buy == buy {
			of = append(of, o)
		}
	}
	for len(of) > 0 {
		at := 0
		for i, o := range of {
			if exact(o.Rate).Cmp(exact(of[at].Rate)) < 0 {
				at = i
			}
		}
		l = append(l, of[at])
		of = slices.Delete(of, at, at+1)
	}
	return l
}

func rateMay(r api.Rat) bool {
	return r.Num >= 1 && r.Den >= 1 && r.Num <= term && r.Den <= term && exact(r).Num().Int64() == r.Num
}

func (b *plain) place(o api.Offer) (uint64, api.Errno) {
	if o.Owner == 0 || o.Owner > 16 || o.Sell == 0 || o.Sell > 8 || o.Buy == 0 || o.Buy > 8 || o.Sell == o.Buy {
		return 0, api.ErrArg
	}
	if o.Left < 1 || o.Left > amount || !rateMay(o.Rate) {
		return 0, api.ErrArg
	}
	if len(b.offers) == 32 || b.next == last {
		return 0, api.ErrFull
	}
	o.Seq = b.next
	b.offers[o.Seq] = o
	b.next++
	return o.Seq, api.OK
}

func (b *plain) cancel(owner api.Party, seq uint64) (int64, api.Errno) {
	o, there := b.offers[seq]
	if !there {
		return 0, api.ErrNone
	}
	if o.Owner != owner {
		return 0, api.ErrOwner
	}
	delete(b.offers, seq)
	return o.Left, api.OK
}

func (b *plain) take(seq uint64, n int64) api.Errno {
	o, there := b.offers[seq]
	if !there {
		return api.ErrNone
	}
	if n < 1 || n > o.Left {
		return api.ErrArg
	}
	o.Left -= n
	b.offers[seq] = o
	if o.Left == 0 {
		delete(b.offers, seq)
	}
	return api.OK
}

// dice throws the same numbers in each run.
type dice uint64

func (d *dice) below(n int) int {
	*d = *d*6364136223846793005 + 1442695040888963407
	return int(*d >> 33 % dice(n))
}

func (d *dice) party() api.Party {
	if d.below(20) == 0 {
		return []api.Party{0, 17, 255, 16}[d.below(4)]
	}
	return api.Party(1 + d.below(3))
}

func (d *dice) currency() api.Currency {
	if d.below(20) == 0 {
		return []api.Currency{0, 9, 255, 8}[d.below(4)]
	}
	return api.Currency(1 + d.below(3))
}

func (d *dice) rate() api.Rat {
	if d.below(8) == 0 {
		return []api.Rat{by(term, 1), by(1, term), by(term, term-1), by(term-1, term), by(term+1, term), by(0, 1), by(-1, 1)}[d.below(7)]
	}
	return by(int64(1+d.below(4)), int64(1+d.below(4)))
}

// amount: mostly a small one; sometimes one at a bound, or beside it.
func (d *dice) amount(bound int64) int64 {
	switch d.below(8) {
	case 0, 1:
		return bound
	case 2:
		return bound + 1
	case 3:
		return bound - 1
	case 4:
		return []int64{-1, 0, 1, amount, amount + 1, most, least}[d.below(7)]
	}
	return int64(1 + d.below(9))
}

// number is mostly one that stands.
func (d *dice) number(b *plain) uint64 {
	there := b.numbers()
	if len(there) == 0 || d.below(10) == 0 {
		return []uint64{0, 1, b.next - 1, b.next, b.next + 1, last}[d.below(6)]
	}
	return there[d.below(len(there))]
}

// answer is what is told of one thing that was done: a number, and an error.
type answer struct {
	n uint64
	e api.Errno
}

// step does one thing to both, and tells what it was and what they answered.
func step(d *dice, b *books.Book, m *plain, places int) (what string, got, want answer) {
	switch seq := d.number(m); {
	case d.below(100) < places:
		o := of(0, d.party(), d.currency(), d.currency(), d.amount(amount), d.rate())
		what = fmt.Sprint("Place ", o)
		got.n, got.e = b.Place(o.Owner, o.Sell, o.Buy, o.Left, o.Rate)
		want.n, want.e = m.place(o)
	case d.below(3) == 0:
		owner := m.offers[seq].Owner
		if d.below(2) == 0 {
			owner = d.party()
		}
		what = fmt.Sprint("Cancel ", owner, seq)
		left, e := b.Cancel(owner, seq)
		got = answer{uint64(left), e}
		left, e = m.cancel(owner, seq)
		want = answer{uint64(left), e}
	default:
		n := d.amount(m.offers[seq].Left)
		what = fmt.Sprint("Take ", seq, n)
		got.e, want.e = b.Take(seq, n), m.take(seq, n)
	}
	return what, got, want
}

// tells holds all that a book tells against the plain one's. The best ones never fall by rate, nor, at one rate, by number. (P4.5)
func tells(t *testing.T, what string, b *books.Book, m *plain) {
	t.Helper()
	holds(t, what, b, m.next, m.all()...)
	for sell := range api.Currency(10) {
		for buy := range api.Currency(10) {
			got := b.Best(sell, buy)
			if !slices.Equal(got, m.best(sell, buy)) {
				t.Fatalf("%s: Best(%d, %d): %v, not %v", what, sell, buy, got, m.best(sell, buy))
			}
			for i := 1; i < len(got); i++ {
				order := exact(got[i-1].Rate).Cmp(exact(got[i].Rate))
				if order > 0 || order == 0 && got[i-1].Seq >= got[i].Seq {
					t.Fatalf("%s: Best(%d, %d): %v falls at %d", what, sell, buy, got, i)
				}
			}
		}
	}
	for _, seq := range append(m.numbers(), 0, m.next-1, m.next, last) {
		got, is := b.Find(seq)
		want, there := m.offers[seq]
		if got != want || is != there {
			t.Fatalf("%s: Find(%d): %v, %v, not %v, %v", what, seq, got, is, want, there)
		}
	}
}

// P4.1 to P4.5: whatever comes, a book is what the plain one is, no number is given twice, and what Of makes of what it tells is the same.
func TestWalk(t *testing.T) {
	seen := map[api.Errno]int{}
	for seed := range 30 {
		d := dice(seed)
		b, m := books.New(), &plain{offers: map[uint64]api.Offer{}, next: 1}
		if seed%3 == 2 {
			m.next = last - 60
			b = made(t, m.next)
		}
		given := map[uint64]bool{} // a place alone makes another next number
		// Some walks stay at a few offers, some come to MaxOffers.
		places := 50 + seed%2*30
		for i := range 300 {
			next := b.Next()
			what, got, want := step(&d, b, m, places)
			what = fmt.Sprintf("walk %d, step %d: %s", seed, i, what)
			if got != want {
				t.Fatalf("%s: %v, not %v", what, got, want)
			}
			if b.Next() != next {
				if given[got.n] {
					t.Fatalf("%s: the number %d is given twice", what, got.n)
				}
				given[got.n] = true
			}
			seen[got.e]++
			holds(t, what, b, m.next, m.all()...)
			if i%10 == 0 {
				tells(t, what, b, m)
				tells(t, what+", made anew", made(t, b.Next(), b.All()...), m)
				b = b.Copy()
			}
		}
	}
	for _, e := range []api.Errno{api.OK, api.ErrArg, api.ErrNone, api.ErrFull, api.ErrOwner} {
		if seen[e] < 50 {
			t.Errorf("%v came %d times only", e, seen[e])
		}
	}
}
