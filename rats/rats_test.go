package rats_test

import (
	"math"
	"math/big"
	"slices"
	"testing"

	"countinghouse/api"
	"countinghouse/rats"
)

const (
	most  = math.MaxInt64
	least = math.MinInt64
	term  = api.MaxTerm
)

type answer struct {
	n int64
	e api.Errno
}

func answered(n int64, e api.Errno) answer { return answer{n, e} }

type made struct {
	r api.Rat
	e api.Errno
}

func of(num, den int64) made {
	r, e := rats.Of(num, den)
	return made{r, e}
}

func by(num, den int64) api.Rat { return api.Rat{Num: num, Den: den} }

func wide(n int64) *big.Int { return big.NewInt(n) }

// exact is a rate whose terms are above 0, as a fraction of any length.
func exact(r api.Rat) *big.Rat { return big.NewRat(r.Num, r.Den) }

// told is how a whole number is answered.
func told(n *big.Int) answer {
	if !n.IsInt64() {
		return answer{0, api.ErrOver}
	}
	return answer{n.Int64(), api.OK}
}

// sample is some numbers above 0, of all sizes up to that many bits, the same ones in each run.
func sample(many int, sizes uint64) []int64 {
	l := make([]int64, many)
	x := uint64(88172645463325252)
	for i := range l {
		x ^= x << 13
		x ^= x >> 7
		x ^= x << 17
		l[i] = int64(x>>(64-x%sizes-1)) | 1<<(x%sizes)
	}
	return l
}

// wrong are rates that may not be.
var wrong = []api.Rat{
	by(0, 0), by(0, 1), by(1, 0), by(0, term), by(term, 0),
	by(-1, 1), by(1, -1), by(-1, -1), by(-3, -2), by(-3, 2), by(3, -2), by(least, least), by(least, 1), by(1, least), by(-1, least),
	by(2, 2), by(6, 4), by(2, 4), by(3, 9), by(9, 3), by(term, term), by(term, 2), by(2, term), by(term-1, 3),
	by(term+1, 1), by(1, term+1), by(term+1, term), by(term, term+1), by(term+1, term+2), by(2*term, 1), by(1, 2*term), by(2*term, 2), by(2, 2*term),
	by(most, 1), by(1, most), by(most, most), by(most, most-1),
}

// right are rates that may be: of small terms, of terms at the limit, and in between.
func right() []api.Rat {
	var l []api.Rat
	terms := slices.Concat([]int64{1, 2, 3, 4, 5, 6, 7, 12, 1 << 20, 1<<20 + 1, term / 2, term - 2, term - 1, term}, sample(12, 40))
	for _, num := range terms {
		for _, den := range terms {
			if exact(by(num, den)).Num().Cmp(wide(num)) == 0 {
				l = append(l, by(num, den))
			}
		}
	}
	return l
}

// P2.1, Of: at what the document shows, at each bound, and where terms that are too great divide down.
func TestOfByHand(t *testing.T) {
	arg, over := made{e: api.ErrArg}, made{e: api.ErrOver}
	is := func(num, den int64) made { return made{by(num, den), api.OK} }
	for _, c := range []struct {
		num, den int64
		want     made
	}{
		{6, 4, is(3, 2)},
		{4, 6, is(2, 3)},
		{1, 1, is(1, 1)},
		{7, 13, is(7, 13)},
		{5, 5, is(1, 1)},
		{12, 4, is(3, 1)},
		{4, 12, is(1, 3)},
		{1, term, is(1, term)},
		{term, 1, is(term, 1)},
		{term, term, is(1, 1)},
		{term, term - 1, is(term, term-1)},
		{term - 1, term, is(term-1, term)},
		{term, 6, is(term/2, 3)},
		// Too great, but not when divided.
		{2 * term, 2, is(term, 1)},
		{2, 2 * term, is(1, term)},
		{2 * term, 2 * term, is(1, 1)},
		{most, most, is(1, 1)},
		{1 << 62, 1 << 22, is(term, 1)},
		{1 << 22, 1 << 62, is(1, term)},
		{3 * term, 3 * (term - 1), is(term, term-1)},
		{most, 92737 * 649657, is(153092023, 1)},
		// Too great, when divided too.
		{term + 1, 1, over},
		{1, term + 1, over},
		{term + 1, term + 2, over},
		{term, term + 1, over},
		{2 * term, 1, over},
		{1, 2 * term, over},
		{4 * term, 2, over},
		{2, 4 * term, over},
		{2*term + 2, 2, over},
		{2, 2*term + 2, over},
		{most, 7 * 73, over},
		{most, 1, over},
		{1, most, over},
		{most, most - 1, over},
		{0, 0, arg},
		{0, 1, arg},
		{1, 0, arg},
		{-1, 1, arg},
		{1, -1, arg},
		{-2, -4, arg},
		{least, least, arg},
		{least, 1, arg},
		{1, least, arg},
		{least, -1, arg},
		// ErrArg is named ahead of ErrOver.
		{0, most, arg},
		{most, 0, arg},
		{-1, most, arg},
		{most, -1, arg},
	} {
		if got := of(c.num, c.den); got != c.want {
			t.Errorf("Of(%d, %d): %v, not %v", c.num, c.den, got, c.want)
		}
	}
}

// P2.1, Of, against fractions of any length.
func TestOf(t *testing.T) {
	terms := slices.Concat(sample(300, 63), sample(100, 44), sample(60, 8), []int64{1, 2, 3, term - 1, term, term + 1, most - 1, most})
	for _, num := range terms {
		for _, den := range terms {
			f := big.NewRat(num, den)
			want := made{e: api.ErrOver}
			if f.Num().Cmp(wide(term)) <= 0 && f.Denom().Cmp(wide(term)) <= 0 {
				want = made{by(f.Num().Int64(), f.Denom().Int64()), api.OK}
			}
			if got := of(num, den); got != want {
				t.Fatalf("Of(%d, %d): %v, not %v", num, den, got, want)
			}
		}
	}
}

// P2.1, May: those are rates that Of leaves as they are.
func TestMay(t *testing.T) {
	for _, r := range []api.Rat{by(1, 1), by(3, 2), by(2, 3), by(1, term), by(term, 1), by(term, term-1), by(term-1, term), by(term, 3)} {
		if !rats.May(r) {
			t.Errorf("May(%v): false", r)
		}
	}
	for _, r := range right() {
		if !rats.May(r) {
			t.Errorf("May(%v): false", r)
		}
	}
	for _, r := range wrong {
		if rats.May(r) {
			t.Errorf("May(%v): true", r)
		}
	}
	for num := int64(-3); num < 40; num++ {
		for den := int64(-3); den < 40; den++ {
			want := num > 0 && den > 0 && new(big.Int).GCD(nil, nil, wide(num), wide(den)).Int64() == 1
			if got := rats.May(by(num, den)); got != want {
				t.Errorf("May(%d by %d): %v", num, den, got)
			}
		}
	}
}

// P2.2, Compare: at what the document shows, and where products agree in all but the last of many digits.
func TestCompareByHand(t *testing.T) {
	for _, c := range []struct {
		a, b api.Rat
		want int
	}{
		{by(1, 3), by(2, 5), -1},
		{by(1, 2), by(1, 2), 0},
		{by(3, 2), by(3, 2), 0},
		{by(3, 1), by(2, 1), 1},
		{by(1, 3), by(1, 2), -1},
		{by(term, 1), by(1, term), 1},
		{by(term, 1), by(term, 1), 0},
		{by(1, term), by(1, term), 0},
		{by(1, term), by(1, term-1), -1},
		{by(term, 1), by(term-1, 1), 1},
		{by(term, term-1), by(term-1, term-2), -1},
		{by(term-1, term), by(term-2, term-1), 1},
		{by(term, term-1), by(1, 1), 1},
		{by(term-1, term), by(1, 1), -1},
		// The first product's upper word is less, its lower one greater.
		{by(term-1, term), by(term, term-1), -1},
		{by(1<<24-1, 1<<24), by(term, 1<<24-1), -1},
	} {
		if got := rats.Compare(c.a, c.b); got != c.want {
			t.Errorf("Compare(%v, %v): %d, not %d", c.a, c.b, got, c.want)
		}
		if got := rats.Compare(c.b, c.a); got != -c.want {
			t.Errorf("Compare(%v, %v): %d, not %d", c.b, c.a, got, -c.want)
		}
	}
}

// P2.2, Compare, against fractions of any length. P2.5: there is one order, which the inverses turn.
func TestCompare(t *testing.T) {
	l := right()
	for _, a := range l {
		for _, b := range l {
			want := exact(a).Cmp(exact(b))
			if got := rats.Compare(a, b); got != want {
				t.Fatalf("Compare(%v, %v): %d, not %d", a, b, got, want)
			}
			if got := rats.Compare(rats.Inverse(b), rats.Inverse(a)); got != want {
				t.Fatalf("Compare of the inverses of %v and %v: %d, not %d", b, a, got, want)
			}
		}
	}
}

// P2.5: those sorted by Compare are sorted each to each, and none but the same are equal.
func TestOneOrder(t *testing.T) {
	l := right()
	slices.SortFunc(l, rats.Compare)
	l = slices.Compact(l)
	for i, a := range l {
		for _, b := range l[i+1:] {
			if rats.Compare(a, b) != -1 || rats.Compare(b, a) != 1 {
				t.Fatalf("%v stands ahead of %v", a, b)
			}
		}
	}
}

// P2.2: a rate that may not be is held against nothing, and has no inverse.
func TestCompareAndInverseOfWrong(t *testing.T) {
	for _, a := range wrong {
		for _, b := range []api.Rat{by(1, 1), by(3, 2), by(1, term), by(term, 1)} {
			if x, y := rats.Compare(a, b), rats.Compare(b, a); x != 0 || y != 0 {
				t.Errorf("%v against %v: %d, %d", a, b, x, y)
			}
		}
		for _, b := range wrong {
			if x := rats.Compare(a, b); x != 0 {
				t.Errorf("%v against %v: %d", a, b, x)
			}
		}
		if got := rats.Inverse(a); got != by(0, 0) {
			t.Errorf("Inverse(%v): %v", a, got)
		}
	}
}

// P2.2, Inverse.
func TestInverse(t *testing.T) {
	for _, r := range slices.Concat(right(), []api.Rat{by(3, 2), by(7, term), by(term, 1), by(1, 1)}) {
		if got := rats.Inverse(r); got != by(r.Den, r.Num) || rats.Inverse(got) != r {
			t.Errorf("Inverse(%v): %v", r, got)
		}
	}
}

// P2.3 and P2.4, at what the document shows, and at each bound.
func TestByHand(t *testing.T) {
	arg, over := answer{0, api.ErrArg}, answer{0, api.ErrOver}
	is := func(n int64) answer { return answer{n, api.OK} }
	for _, c := range []struct {
		n        int64
		r        api.Rat
		down, up answer
		fits     int64
	}{
		{5, by(3, 2), is(7), is(8), 3},
		{7, by(3, 2), is(10), is(11), 4},
		{6, by(3, 2), is(9), is(9), 4},
		{0, by(3, 2), is(0), is(0), 0},
		{1, by(3, 2), is(1), is(2), 0},
		{10, by(1, 3), is(3), is(4), 30},
		{1, by(1, term), is(0), is(1), term},
		{0, by(1, term), is(0), is(0), 0},
		{term, by(1, term), is(1), is(1), term},
		{term, by(1, 1), is(term), is(term), term},
		{term - 1, by(1, 1), is(term - 1), is(term - 1), term - 1},
		{term + 1, by(1, 1), is(term + 1), is(term + 1), term},
		{1, by(1, term-1), is(0), is(1), term - 1},
		// The product is too great, the quotient is not.
		{most, by(1, 1), is(most), is(most), term},
		{most, by(term-1, term), is(9223372036846387199), is(9223372036846387200), term},
		{1 << 60, by(term-1, term), is(1<<60 - 1<<20), is(1<<60 - 1<<20), term},
		{1 << 62, by(3, 2), is(3 << 61), is(3 << 61), term},
		// Times the rate it is too great, but what fits is little.
		{term, by(term, 1), over, over, 1},
		{term - 1, by(term, 1), over, over, 0},
		{1 << 23, by(term, 1), over, over, 0},
		{1<<23 - 1, by(term, 1), is(most - term + 1), is(most - term + 1), 0},
		{most, by(term, 1), over, over, 1<<23 - 1},
		{most, by(2, 1), over, over, term},
		{most, by(1<<24, 1), over, over, 1<<39 - 1},
		// Three halves of this are the greatest number, and a half.
		{6148914691236517205, by(3, 2), is(most), over, term},
		// By the rate it is too great: all fits that may.
		{most, by(1, 2), is(most / 2), is(most/2 + 1), term},
		{most, by(1, term), is(1<<23 - 1), is(1 << 23), term},
		{-1, by(1, 1), arg, arg, 0},
		{-1, by(1, term), arg, arg, 0},
		{least, by(3, 2), arg, arg, 0},
		{-1, by(6, 4), arg, arg, 0},
	} {
		down, up := answered(rats.Down(c.n, c.r)), answered(rats.Up(c.n, c.r))
		if down != c.down || up != c.up {
			t.Errorf("Down, Up(%d, %v): %v, %v, not %v, %v", c.n, c.r, down, up, c.down, c.up)
		}
		if got := rats.Fits(c.n, c.r); got != c.fits {
			t.Errorf("Fits(%d, %v): %d, not %d", c.n, c.r, got, c.fits)
		}
	}
}

// P2.3 and P2.4: of a rate that may not be there is nothing, however well its terms would do.
func TestByWrong(t *testing.T) {
	arg := answer{0, api.ErrArg}
	for _, r := range wrong {
		for _, n := range []int64{least, -1, 0, 1, 7, term, most} {
			down, up := answered(rats.Down(n, r)), answered(rats.Up(n, r))
			if down != arg || up != arg {
				t.Errorf("Down, Up(%d, %v): %v, %v", n, r, down, up)
			}
			if got := rats.Fits(n, r); got != 0 {
				t.Errorf("Fits(%d, %v): %d", n, r, got)
			}
		}
	}
}

// amounts are numbers from 0 on, small, at the limits, and in between.
func amounts() []int64 {
	return slices.Concat([]int64{0, 1, 2, 3, 4, 5, 6, 7, 100, 1<<23 - 1, 1 << 23, term - 1, term, term + 1, 1 << 62, most - 1, most}, sample(12, 63))
}

// P2.3, against numbers of any length. P2.5: what is raised is less than one above the exact number.
func TestDownUp(t *testing.T) {
	one := big.NewRat(1, 1)
	for _, r := range right() {
		for _, n := range amounts() {
			whole, left := new(big.Int), new(big.Int)
			whole.QuoRem(new(big.Int).Mul(wide(n), wide(r.Num)), wide(r.Den), left)
			down, up := told(whole), told(whole)
			if left.Sign() != 0 {
				up = told(new(big.Int).Add(whole, wide(1)))
			}
			gotDown, gotUp := answered(rats.Down(n, r)), answered(rats.Up(n, r))
			if gotDown != down || gotUp != up {
				t.Fatalf("Down, Up(%d, %v): %v, %v, not %v, %v", n, r, gotDown, gotUp, down, up)
			}
			if gotUp.e != api.OK {
				continue
			}
			above := new(big.Rat).SetInt64(gotUp.n)
			above.Sub(above, new(big.Rat).Mul(new(big.Rat).SetInt64(n), exact(r)))
			if above.Sign() < 0 || above.Cmp(one) >= 0 {
				t.Fatalf("Up(%d, %v): %d is %v above", n, r, gotUp.n, above)
			}
		}
	}
}

// within: is Up of that amount n at most?
func within(amount int64, r api.Rat, n int64) bool {
	up, e := rats.Up(amount, r)
	return e == api.OK && up <= n
}

// P2.4 and P2.5: what fits is raised to n at most, and one more is not, below MaxAmount.
func TestFits(t *testing.T) {
	for _, r := range right() {
		for _, n := range amounts() {
			fits := rats.Fits(n, r)
			if fits < 0 || fits > api.MaxAmount {
				t.Fatalf("Fits(%d, %v): %d", n, r, fits)
			}
			if !within(fits, r, n) {
				t.Fatalf("Fits(%d, %v): %d is too much", n, r, fits)
			}
			if fits < api.MaxAmount && within(fits+1, r, n) {
				t.Fatalf("Fits(%d, %v): %d, but one more fits", n, r, fits)
			}
		}
	}
}

// P2.4, with each amount gone through.
func TestFitsOneByOne(t *testing.T) {
	for num := int64(1); num < 12; num++ {
		for den := int64(1); den < 12; den++ {
			r, e := rats.Of(num, den)
			if e != api.OK {
				t.Fatalf("Of(%d, %d): %v", num, den, e)
			}
			for n, want := int64(0), int64(0); n < 60; n++ {
				for within(want+1, r, n) {
					want++
				}
				if got := rats.Fits(n, r); got != want {
					t.Errorf("Fits(%d, %v): %d, not %d", n, r, got, want)
				}
			}
		}
	}
}
