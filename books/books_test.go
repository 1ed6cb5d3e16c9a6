package books_test

import (
	"fmt"
	"math"
	"slices"
	"testing"

	"countinghouse/api"
	"countinghouse/books"
)

const (
	amount = api.MaxAmount
	term   = api.MaxTerm
	most   = math.MaxInt64
	least  = math.MinInt64
	last   = math.MaxUint64
)

func by(num, den int64) api.Rat { return api.Rat{Num: num, Den: den} }

// of is an offer, as the document's examples have it: number, owner, sold, bought, left, rate.
func of(seq uint64, owner api.Party, sell, buy api.Currency, left int64, rate api.Rat) api.Offer {
	return api.Offer{Seq: seq, Owner: owner, Sell: sell, Buy: buy, Left: left, Rate: rate}
}

// some is an offer that may be, of that number.
func some(seq uint64) api.Offer { return of(seq, 3, 1, 2, 5, by(3, 2)) }

// many are so many offers, numbered from 1 on.
func many(n int) []api.Offer {
	var l []api.Offer
	for i := range n {
		l = append(l, of(uint64(i)+1, api.Party(1+i%16), api.Currency(1+i%8), api.Currency(1+(i+1+i/8)%8), int64(i)+1, by(int64(i)+1, 1)))
	}
	return l
}

func made(t *testing.T, next uint64, offers ...api.Offer) *books.Book {
	t.Helper()
	b, e := books.Of(offers, next)
	if e != api.OK || b == nil {
		t.Fatalf("Of(%v, %d): %v", offers, next, e)
	}
	return b
}

// holds asks whether a book has just these, and that next number.
func holds(t *testing.T, what string, b *books.Book, next uint64, offers ...api.Offer) {
	t.Helper()
	if got := b.All(); !slices.Equal(got, offers) {
		t.Fatalf("%s: offers %v, not %v", what, got, offers)
	}
	if got := b.Next(); got != next {
		t.Fatalf("%s: next is %d, not %d", what, got, next)
	}
}

// place places an offer, and holds its number and error against those that the document asks for.
func place(t *testing.T, b *books.Book, o api.Offer, want api.Errno) {
	t.Helper()
	next, all := b.Next(), b.All()
	seq, e := b.Place(o.Owner, o.Sell, o.Buy, o.Left, o.Rate)
	if e != want {
		t.Fatalf("Place(%v): %v, not %v", o, e, want)
	}
	if want != api.OK {
		if seq != 0 {
			t.Fatalf("Place(%v): the number %d, beside an error", o, seq)
		}
		holds(t, "refused", b, next, all...)
		return
	}
	if seq != next {
		t.Fatalf("Place(%v): the number %d, not %d", o, seq, next)
	}
	o.Seq = next
	holds(t, "placed", b, next+1, append(all, o)...)
}

// cancel takes an offer back, and holds what was left of it, and the error, against those that the document asks for.
func cancel(t *testing.T, b *books.Book, owner api.Party, seq uint64, left int64, want api.Errno) {
	t.Helper()
	next, all := b.Next(), b.All()
	got, e := b.Cancel(owner, seq)
	if got != left || e != want {
		t.Fatalf("Cancel(%d, %d): %d, %v, not %d, %v", owner, seq, got, e, left, want)
	}
	if want == api.OK {
		all = slices.DeleteFunc(all, func(o api.Offer) bool { return o.Seq == seq })
	}
	holds(t, fmt.Sprintf("Cancel(%d, %d)", owner, seq), b, next, all...)
}

// take takes of an offer, and holds the error, and what is there then, against those that the document asks for.
func take(t *testing.T, b *books.Book, seq uint64, n int64, want api.Errno) {
	t.Helper()
	next, all := b.Next(), b.All()
	if e := b.Take(seq, n); e != want {
		t.Fatalf("Take(%d, %d): %v, not %v", seq, n, e, want)
	}
	if want == api.OK {
		at := slices.IndexFunc(all, func(o api.Offer) bool { return o.Seq == seq })
		all[at].Left -= n
		if all[at].Left == 0 {
			all = slices.Delete(all, at, at+1)
		}
	}
	holds(t, fmt.Sprintf("Take(%d, %d)", seq, n), b, next, all...)
}

// best holds the numbers of the best ones against those that the document asks for.
func best(t *testing.T, b *books.Book, sell, buy api.Currency, want ...uint64) {
	t.Helper()
	var got []uint64
	for _, o := range b.Best(sell, buy) {
		got = append(got, o.Seq)
		if there, is := b.Find(o.Seq); !is || there != o {
			t.Fatalf("Best(%d, %d): %v, but Find has %v, %v", sell, buy, o, there, is)
		}
	}
	if !slices.Equal(got, want) {
		t.Fatalf("Best(%d, %d): %v, not %v", sell, buy, got, want)
	}
}

// The document's examples, one behind the other.
func TestExamples(t *testing.T) {
	b := books.New()
	place(t, b, of(0, 1, 1, 2, 10, by(3, 2)), api.OK)
	place(t, b, of(0, 2, 1, 2, 5, by(1, 1)), api.OK)
	place(t, b, of(0, 3, 1, 2, 5, by(3, 2)), api.OK)
	place(t, b, of(0, 1, 1, 1, 5, by(1, 1)), api.ErrArg)
	best(t, b, 1, 2, 2, 1, 3)
	best(t, b, 2, 1)
	cancel(t, b, 1, 2, 0, api.ErrOwner)
	cancel(t, b, 2, 2, 5, api.OK)
	take(t, b, 1, 10, api.OK)
	holds(t, "All", b, 4, of(3, 3, 1, 2, 5, by(3, 2)))
}

// P4.1: New has nothing, and takes what comes; two are not the same.
func TestNew(t *testing.T) {
	a, b := books.New(), books.New()
	if a == nil || b == nil {
		t.Fatal("no book")
	}
	holds(t, "New", a, 1)
	place(t, a, some(0), api.OK)
	holds(t, "used", a, 2, some(1))
	holds(t, "the other one", b, 1)
}

// P4.1: what Of takes, it tells.
func TestOfTakes(t *testing.T) {
	all := many(api.MaxOffers)
	for i, c := range []struct {
		next   uint64
		offers []api.Offer
	}{
		{1, nil},
		{1, []api.Offer{}},
		{2, nil},
		{last, nil},
		// The next number is just above the last offer's, and far above.
		{2, []api.Offer{some(1)}},
		{3, []api.Offer{some(1)}},
		{last, []api.Offer{some(1)}},
		{last, []api.Offer{some(last - 1)}},
		{last, []api.Offer{some(1), some(last - 2), some(last - 1)}},
		{1 << 63, []api.Offer{some(1<<63 - 1)}},
		{1<<63 + 1, []api.Offer{some(1<<63 - 1), some(1 << 63)}},
		{9, []api.Offer{some(3), some(4), some(8)}},
		{api.MaxOffers, all[:api.MaxOffers-1]},
		{api.MaxOffers + 1, all},
		// The least and the greatest of all that an offer has.
		{2, []api.Offer{of(1, 1, 1, 8, 1, by(1, term))}},
		{2, []api.Offer{of(1, 16, 8, 1, amount, by(term, 1))}},
		{2, []api.Offer{of(1, 16, 7, 8, amount-1, by(term, term-1))}},
	} {
		holds(t, fmt.Sprint(i), made(t, c.next, c.offers...), c.next, c.offers...)
	}
}

// mayNot are offers that may not be, whatever their number.
func mayNot() []api.Offer {
	l := []api.Offer{
		{},
		of(0, 0, 1, 2, 5, by(3, 2)), of(0, 17, 1, 2, 5, by(3, 2)), of(0, 255, 1, 2, 5, by(3, 2)),
		of(0, 3, 0, 2, 5, by(3, 2)), of(0, 3, 9, 2, 5, by(3, 2)), of(0, 3, 255, 2, 5, by(3, 2)),
		of(0, 3, 1, 0, 5, by(3, 2)), of(0, 3, 1, 9, 5, by(3, 2)), of(0, 3, 1, 255, 5, by(3, 2)),
		of(0, 3, 1, 1, 5, by(3, 2)), of(0, 3, 8, 8, 5, by(1, 1)), of(0, 3, 0, 0, 5, by(3, 2)), of(0, 3, 9, 9, 5, by(3, 2)),
	}
	for _, left := range []int64{0, -1, -5, amount + 1, least, most} {
		l = append(l, of(0, 3, 1, 2, left, by(3, 2)))
	}
	for _, rate := range []api.Rat{
		by(0, 0), by(0, 1), by(1, 0), by(-3, 2), by(3, -2), by(-3, -2), by(least, 1), by(1, least),
		by(6, 4), by(2, 2), by(term, 2), by(term, term),
		by(term+1, 1), by(1, term+1), by(term+1, term), by(most, 1), by(1, most),
	} {
		l = append(l, of(0, 3, 1, 2, 5, rate))
	}
	return l
}

// P4.1: what Of refuses; with an error there is no book.
func TestOfRefuses(t *testing.T) {
	type given struct {
		offers []api.Offer
		next   uint64
		want   api.Errno
	}
	more := many(api.MaxOffers + 1)
	all := []given{
		{more, api.MaxOffers + 2, api.ErrFull},
		// How many there are is named first.
		{more, 0, api.ErrFull},
		{make([]api.Offer, api.MaxOffers+1), 1, api.ErrFull},
		{make([]api.Offer, api.MaxOffers), 1, api.ErrArg},
		// Numbers that do not rise.
		{[]api.Offer{some(0)}, 9, api.ErrArg},
		{[]api.Offer{some(0), some(1)}, 9, api.ErrArg},
		{[]api.Offer{some(1), some(1)}, 9, api.ErrArg},
		{[]api.Offer{some(1), some(2), some(2)}, 9, api.ErrArg},
		{[]api.Offer{some(2), some(1)}, 9, api.ErrArg},
		{[]api.Offer{some(1), some(3), some(2)}, 9, api.ErrArg},
		{[]api.Offer{some(1), some(3), some(1)}, 9, api.ErrArg},
		{[]api.Offer{some(1), some(0)}, 9, api.ErrArg},
		{[]api.Offer{some(1 << 63), some(1)}, last, api.ErrArg},
		// A next number that is not above all of them, and 1 at least.
		{nil, 0, api.ErrArg},
		{[]api.Offer{}, 0, api.ErrArg},
		{[]api.Offer{some(1)}, 0, api.ErrArg},
		{[]api.Offer{some(1)}, 1, api.ErrArg},
		{[]api.Offer{some(1), some(7)}, 6, api.ErrArg},
		{[]api.Offer{some(1), some(7)}, 7, api.ErrArg},
		{many(api.MaxOffers), api.MaxOffers, api.ErrArg},
		{[]api.Offer{some(last - 1)}, last - 1, api.ErrArg},
		{[]api.Offer{some(last)}, last, api.ErrArg},
		{[]api.Offer{some(last)}, 0, api.ErrArg},
		{[]api.Offer{some(1 << 63)}, 1, api.ErrArg},
	}
	for _, o := range mayNot() {
		o.Seq = 1
		behind := o
		behind.Seq = 2
		all = append(all, given{[]api.Offer{o}, 9, api.ErrArg}, given{[]api.Offer{o, some(2)}, 9, api.ErrArg}, given{[]api.Offer{some(1), behind}, 9, api.ErrArg})
	}
	for i, c := range all {
		if b, e := books.Of(c.offers, c.next); b != nil || e != c.want {
			t.Errorf("%d: Of(%v, %d): %v, %v, not %v", i, c.offers, c.next, b, e, c.want)
		}
	}
}

// P4.2: what stands, stands behind all others.
func TestPlace(t *testing.T) {
	b := books.New()
	for _, o := range []api.Offer{
		of(0, 1, 1, 8, 1, by(1, term)),
		of(0, 16, 8, 1, amount, by(term, 1)),
		of(0, 3, 1, 2, 5, by(3, 2)),
		// The same again is another one.
		of(0, 3, 1, 2, 5, by(3, 2)),
		of(0, 16, 7, 8, amount-1, by(term, term-1)),
	} {
		place(t, b, o, api.OK)
	}
	holds(t, "placed", b, 6,
		of(1, 1, 1, 8, 1, by(1, term)), of(2, 16, 8, 1, amount, by(term, 1)),
		of(3, 3, 1, 2, 5, by(3, 2)), of(4, 3, 1, 2, 5, by(3, 2)), of(5, 16, 7, 8, amount-1, by(term, term-1)))
	b = made(t, 40, some(3), some(7))
	place(t, b, some(0), api.OK)
	holds(t, "behind what Of took", b, 41, some(3), some(7), some(40))
}

// P4.2: each owner and each currency there is.
func TestPlaceOfAll(t *testing.T) {
	may := func(n, most int) bool { return 1 <= n && n <= most }
	for n := range 256 {
		for _, c := range []struct {
			o   api.Offer
			may bool
		}{
			{of(0, api.Party(n), 1, 2, 5, by(3, 2)), may(n, 16)},
			{of(0, 3, api.Currency(n), 4, 5, by(3, 2)), may(n, 8) && n != 4},
			{of(0, 3, 4, api.Currency(n), 5, by(3, 2)), may(n, 8) && n != 4},
			{of(0, 3, api.Currency(n), api.Currency(n), 5, by(3, 2)), false},
		} {
			want := api.ErrArg
			if c.may {
				want = api.OK
			}
			place(t, books.New(), c.o, want)
		}
	}
}

// P4.2: what Place refuses, and of several errors which.
func TestPlaceRefuses(t *testing.T) {
	full := made(t, 100, many(api.MaxOffers)...)
	for _, b := range []*books.Book{books.New(), made(t, 9, some(1), some(8)), full, made(t, last), made(t, last, some(last-1))} {
		for _, o := range mayNot() {
			place(t, b, o, api.ErrArg)
		}
	}
	place(t, full, some(0), api.ErrFull)
	place(t, made(t, last), some(0), api.ErrFull)
	place(t, made(t, last, many(api.MaxOffers)...), some(0), api.ErrFull)
}

// P4.2: MaxOffers offers, and one more; where one is gone, there is room again. P4.5: no number is given twice.
func TestPlaceFull(t *testing.T) {
	b := books.New()
	for range api.MaxOffers {
		place(t, b, some(0), api.OK)
	}
	place(t, b, some(0), api.ErrFull)
	cancel(t, b, 3, api.MaxOffers, 5, api.OK)
	place(t, b, some(0), api.OK)
	place(t, b, some(0), api.ErrFull)
	take(t, b, 1, 4, api.OK)
	place(t, b, some(0), api.ErrFull)
	take(t, b, 1, 1, api.OK)
	place(t, b, some(0), api.OK)
	place(t, b, some(0), api.ErrFull)
	if got := b.All(); len(got) != api.MaxOffers || got[0].Seq != 2 || got[30].Seq != 33 || got[31].Seq != 34 {
		t.Errorf("%v", got)
	}
}

// P4.2: the last number that may be given is 2^64 - 2.
func TestPlaceLastNumber(t *testing.T) {
	b := made(t, last-2)
	place(t, b, some(0), api.OK)
	place(t, b, some(0), api.OK)
	holds(t, "the last ones", b, last, some(last-2), some(last-1))
	place(t, b, some(0), api.ErrFull)
	cancel(t, b, 3, last-1, 5, api.OK)
	take(t, b, last-2, 5, api.OK)
	place(t, b, some(0), api.ErrFull)
	holds(t, "none", b, last)
	holds(t, "its copy", b.Copy(), last)
	holds(t, "made anew", made(t, b.Next(), b.All()...), last)
}

// P4.3, Cancel: what was left; of somebody else's, and of one that is not there.
func TestCancel(t *testing.T) {
	b := made(t, 20, of(2, 1, 1, 2, 10, by(3, 2)), of(5, 2, 1, 2, amount, by(1, 1)), of(9, 16, 8, 7, 1, by(1, 1)), of(11, 1, 2, 1, 6, by(1, 1)))
	for p := range 256 {
		owner := api.Party(p)
		if owner != 2 {
			cancel(t, b, owner, 5, 0, api.ErrOwner)
		}
		// ErrNone is named ahead of ErrOwner.
		for _, seq := range []uint64{0, 1, 3, 4, 6, 10, 12, 19, 20, 21, 1 << 63, last, 1<<32 + 5} {
			cancel(t, b, owner, seq, 0, api.ErrNone)
		}
	}
	cancel(t, b, 2, 5, amount, api.OK)
	cancel(t, b, 2, 5, 0, api.ErrNone)
	cancel(t, b, 1, 9, 0, api.ErrOwner)
	cancel(t, b, 16, 9, 1, api.OK)
	take(t, b, 2, 3, api.OK)
	cancel(t, b, 1, 2, 7, api.OK)
	cancel(t, b, 1, 11, 6, api.OK)
	cancel(t, b, 1, 11, 0, api.ErrNone)
	holds(t, "all gone", b, 20)
}

// P4.3, Take: by less, by one less, and wholly; what may not be taken.
func TestTake(t *testing.T) {
	b := made(t, 20, of(2, 1, 1, 2, 10, by(3, 2)), of(5, 2, 1, 2, amount, by(1, 1)), of(9, 16, 8, 7, 1, by(1, 1)))
	for _, n := range []int64{0, -1, 11, amount, least, most} {
		take(t, b, 2, n, api.ErrArg)
	}
	take(t, b, 5, amount+1, api.ErrArg)
	take(t, b, 9, 2, api.ErrArg)
	// ErrNone is named ahead of ErrArg.
	for _, seq := range []uint64{0, 1, 3, 6, 19, 20, 21, 1<<32 + 5, last} {
		for _, n := range []int64{least, -1, 0, 1, 10, most} {
			take(t, b, seq, n, api.ErrNone)
		}
	}
	take(t, b, 2, 1, api.OK)
	take(t, b, 2, 10, api.ErrArg)
	take(t, b, 2, 8, api.OK)
	take(t, b, 2, 2, api.ErrArg)
	holds(t, "one is left", b, 20, of(2, 1, 1, 2, 1, by(3, 2)), of(5, 2, 1, 2, amount, by(1, 1)), of(9, 16, 8, 7, 1, by(1, 1)))
	take(t, b, 2, 1, api.OK)
	take(t, b, 2, 1, api.ErrNone)
	take(t, b, 5, amount-1, api.OK)
	take(t, b, 5, 1, api.OK)
	take(t, b, 9, 1, api.OK)
	holds(t, "nothing is left", b, 20)
	b = made(t, 6, of(5, 2, 1, 2, amount, by(1, 1)))
	take(t, b, 5, amount, api.OK)
	holds(t, "taken wholly", b, 6)
}

// P4.4, Find: the offer of that number, as it is now, and no other one.
func TestFind(t *testing.T) {
	l := []api.Offer{of(2, 1, 1, 2, 10, by(3, 2)), of(5, 2, 1, 2, amount, by(1, 1)), of(last-1, 16, 8, 7, 1, by(1, 1))}
	b := made(t, last, l...)
	for _, seq := range []uint64{0, 1, 2, 3, 4, 5, 6, 1<<32 + 5, last - 2, last - 1, last} {
		got, is := b.Find(seq)
		at := slices.IndexFunc(l, func(o api.Offer) bool { return o.Seq == seq })
		if at < 0 && (is || got != api.Offer{}) || at >= 0 && (!is || got != l[at]) {
			t.Errorf("Find(%d): %v, %v", seq, got, is)
		}
	}
	take(t, b, 2, 4, api.OK)
	if got, is := b.Find(2); !is || got != of(2, 1, 1, 2, 6, by(3, 2)) {
		t.Errorf("taken of: %v, %v", got, is)
	}
	take(t, b, 2, 6, api.OK)
	if got, is := b.Find(2); is || got != (api.Offer{}) {
		t.Errorf("gone: %v, %v", got, is)
	}
}

// P4.4, Best: by rising rates, of one rate by rising numbers, of these currencies that way round alone.
func TestBest(t *testing.T) {
	b := books.New()
	for _, r := range []api.Rat{
		by(2, 1), by(1, 2), by(1, 1), by(2, 1), by(1, 2), by(2, 3),
		// Rates that are apart by much, or by less than a float tells: of these the greater one comes first.
		by(term, 1), by(1, term), by(term-1, term-2), by(term-1, term), by(term, term-1), by(1, term),
		// Both terms are greater than those of rates that are greater.
		by(100, 201), by(2, 1),
	} {
		place(t, b, of(0, 1, 1, 2, 10, r), api.OK)
	}
	place(t, b, of(0, 1, 2, 1, 10, by(1, 2)), api.OK)
	place(t, b, of(0, 1, 1, 3, 10, by(1, 3)), api.OK)
	place(t, b, of(0, 1, 3, 2, 10, by(1, 3)), api.OK)
	place(t, b, of(0, 1, 8, 7, 10, by(1, 3)), api.OK)
	place(t, b, of(0, 2, 8, 7, 10, by(1, 3)), api.OK)
	best(t, b, 1, 2, 8, 12, 13, 2, 5, 6, 10, 3, 11, 9, 1, 4, 14, 7)
	best(t, b, 2, 1, 15)
	best(t, b, 1, 3, 16)
	best(t, b, 3, 2, 17)
	best(t, b, 8, 7, 18, 19)
	for _, c := range [][2]api.Currency{{7, 8}, {3, 1}, {2, 3}, {1, 1}, {2, 2}, {0, 0}, {0, 1}, {1, 0}, {1, 9}, {9, 1}, {1, 255}, {4, 5}} {
		best(t, b, c[0], c[1])
	}
	// What is left counts for nothing, and what is gone is not told.
	take(t, b, 5, 9, api.OK)
	take(t, b, 13, 10, api.OK)
	cancel(t, b, 1, 4, 10, api.OK)
	best(t, b, 1, 2, 8, 12, 2, 5, 6, 10, 3, 11, 9, 1, 14, 7)
}

// P4.4, All: the best ones' order is not its own, and asking for them leaves it.
func TestAllAfterBest(t *testing.T) {
	l := []api.Offer{of(1, 1, 1, 2, 10, by(3, 1)), of(2, 2, 1, 2, 9, by(2, 1)), of(3, 3, 2, 1, 8, by(1, 1)), of(4, 4, 1, 2, 7, by(1, 1))}
	b := made(t, 5, l...)
	best(t, b, 1, 2, 4, 2, 1)
	holds(t, "asked for the best", b, 5, l...)
	best(t, b, 2, 1, 3)
	holds(t, "asked for the best", b, 5, l...)
}

// alter does one thing of each kind to a book of some(2), some(5), some(9), whose next number is 20.
func alter(t *testing.T, b *books.Book) {
	t.Helper()
	take(t, b, 5, 2, api.OK)
	cancel(t, b, 3, 2, 5, api.OK)
	place(t, b, some(0), api.OK)
	take(t, b, 9, 5, api.OK)
	holds(t, "altered", b, 21, of(5, 3, 1, 2, 3, by(3, 2)), some(20))
}

// P4.4: a copy has the same, and goes its own way; so does what it was made of. (R5)
func TestCopy(t *testing.T) {
	l := []api.Offer{some(2), some(5), some(9)}
	a := made(t, 20, l...)
	b, c := a.Copy(), a.Copy()
	if b == nil || b == a || b == c {
		t.Fatal("no other one")
	}
	for _, x := range []*books.Book{b, a} {
		holds(t, "one that is not altered yet", x, 20, l...)
		alter(t, x)
		holds(t, "one that stays", c, 20, l...)
	}
	alter(t, c)
	d := books.New().Copy()
	holds(t, "of none", d, 1)
	place(t, d, some(0), api.OK)
}

// P4.4: two that are copies do not write into one another's room, where there was room behind the offers.
func TestCopiesPlaceApart(t *testing.T) {
	for n := range api.MaxOffers {
		a := books.New()
		for _, o := range many(n) {
			place(t, a, o, api.OK)
		}
		b := a.Copy()
		next := a.Next()
		place(t, a, of(0, 1, 1, 2, 1, by(1, 1)), api.OK)
		place(t, b, of(0, 2, 3, 4, 2, by(2, 1)), api.OK)
		holds(t, "the first", a, next+1, append(many(n), of(next, 1, 1, 2, 1, by(1, 1)))...)
		holds(t, "the copy", b, next+1, append(many(n), of(next, 2, 3, 4, 2, by(2, 1)))...)
	}
}

// R1: what is handed in stays as it is, and is not kept.
func TestOfLeavesWhatItIsGiven(t *testing.T) {
	given := []api.Offer{some(2), some(5), some(9), some(11)}
	was := slices.Clone(given)
	b := made(t, 20, given[:3]...)
	alter(t, b)
	if !slices.Equal(given, was) {
		t.Fatalf("%v", given)
	}
	b = made(t, 20, given[:3]...)
	clear(given)
	holds(t, "what is written over", b, 20, was[:3]...)
}

// R4: what is told is memory of its own, with nothing in its room behind.
func TestToldIsItsOwn(t *testing.T) {
	for n := range api.MaxOffers + 1 {
		var l []api.Offer
		var seqs []uint64
		for i := range n {
			l = append(l, some(uint64(i)+1))
			seqs = append(seqs, uint64(i)+1)
		}
		b := made(t, 100, l...)
		for _, got := range [][]api.Offer{b.All(), b.Best(1, 2)} {
			if len(got) != n || cap(got) != n {
				t.Fatalf("%d offers in %d", len(got), cap(got))
			}
			clear(got)
			holds(t, "what is written over", b, 100, l...)
			best(t, b, 1, 2, seqs...)
		}
	}
}

// R3: of no book, and of one that no call made, there is nothing, and it takes nothing: ErrNil is named ahead of all other errors.
func TestNothing(t *testing.T) {
	for _, b := range []*books.Book{nil, {}, new(books.Book)} {
		for _, o := range append(mayNot(), some(0)) {
			if seq, e := b.Place(o.Owner, o.Sell, o.Buy, o.Left, o.Rate); seq != 0 || e != api.ErrNil {
				t.Fatalf("Place(%v): %d, %v", o, seq, e)
			}
		}
		for _, seq := range []uint64{0, 1, 2, last} {
			for _, n := range []int64{least, -1, 0, 1, most} {
				if e := b.Take(seq, n); e != api.ErrNil {
					t.Fatalf("Take(%d, %d): %v", seq, n, e)
				}
			}
			for _, p := range []api.Party{0, 1, 16, 17, 255} {
				if left, e := b.Cancel(p, seq); left != 0 || e != api.ErrNil {
					t.Fatalf("Cancel(%d, %d): %d, %v", p, seq, left, e)
				}
			}
			if o, is := b.Find(seq); is || o != (api.Offer{}) {
				t.Fatalf("Find(%d): %v, %v", seq, o, is)
			}
		}
		if b.Next() != 0 || len(b.All()) != 0 || len(b.Best(1, 2)) != 0 || len(b.Best(0, 0)) != 0 || b.Copy() != nil {
			t.Fatal("there is something")
		}
	}
}
