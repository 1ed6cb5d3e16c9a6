package exacts_test

import (
	"math"
	"math/big"
	"slices"
	"testing"

	"countinghouse/api"
	"countinghouse/exacts"
)

const (
	most  = math.MaxInt64
	least = math.MinInt64
)

// edges are numbers at which a word, or a half of one, is full, and those beside them.
var edges = []int64{
	least, least + 1, least + 2, -1 << 62, -1<<32 - 1, -1 << 32, -1 << 31, -3037000500, -3037000499,
	-7, -3, -2, -1, 0, 1, 2, 3, 7,
	3037000499, 3037000500, 1 << 31, 1 << 32, 1<<32 + 1, 1 << 40, 1<<62 - 1, 1 << 62, 1<<62 + 1, most / 3, most - 2, most - 1, most,
}

// sample is some numbers of all sizes, the same ones in each run.
func sample(many int) []int64 {
	l := make([]int64, many)
	x := uint64(88172645463325252)
	for i := range l {
		x ^= x << 13
		x ^= x >> 7
		x ^= x << 17
		l[i] = int64(x) >> (x % 64)
	}
	return l
}

func wide(n int64) *big.Int { return big.NewInt(n) }

// told is how a whole number is answered.
func told(n *big.Int) (int64, api.Errno) {
	if !n.IsInt64() {
		return 0, api.ErrOver
	}
	return n.Int64(), api.OK
}

type answer struct {
	n int64
	e api.Errno
}

func answered(n int64, e api.Errno) answer { return answer{n, e} }

type two struct {
	name  string
	does  func(a, b int64) (int64, api.Errno)
	exact func(z, a, b *big.Int) *big.Int
}

var twos = []two{
	{"Add", exacts.Add, (*big.Int).Add},
	{"Sub", exacts.Sub, (*big.Int).Sub},
	{"Mul", exacts.Mul, (*big.Int).Mul},
}

func holdTwo(t *testing.T, f two, a, b int64) {
	t.Helper()
	want := answered(told(f.exact(new(big.Int), wide(a), wide(b))))
	if got := answered(f.does(a, b)); got != want {
		t.Errorf("%s(%d, %d): %v, not %v", f.name, a, b, got, want)
	}
}

// P1.1, at what the document shows, and at the greatest and the least number.
func TestTwoByHand(t *testing.T) {
	for _, c := range []struct {
		name string
		got  answer
		want answer
	}{
		{"1 + 2", answered(exacts.Add(1, 2)), answer{3, api.OK}},
		{"most + 1", answered(exacts.Add(most, 1)), answer{0, api.ErrOver}},
		{"most + least", answered(exacts.Add(most, least)), answer{-1, api.OK}},
		{"least + -1", answered(exacts.Add(least, -1)), answer{0, api.ErrOver}},
		{"least + least", answered(exacts.Add(least, least)), answer{0, api.ErrOver}},
		{"least + 0", answered(exacts.Add(least, 0)), answer{least, api.OK}},
		{"most - 1 + 1", answered(exacts.Add(most-1, 1)), answer{most, api.OK}},
		{"2 - 3", answered(exacts.Sub(2, 3)), answer{-1, api.OK}},
		{"least - 1", answered(exacts.Sub(least, 1)), answer{0, api.ErrOver}},
		{"0 - least", answered(exacts.Sub(0, least)), answer{0, api.ErrOver}},
		{"-1 - least", answered(exacts.Sub(-1, least)), answer{most, api.OK}},
		{"least - least", answered(exacts.Sub(least, least)), answer{0, api.OK}},
		{"most - -1", answered(exacts.Sub(most, -1)), answer{0, api.ErrOver}},
		{"-3 * 4", answered(exacts.Mul(-3, 4)), answer{-12, api.OK}},
		{"2^32 * 2^31", answered(exacts.Mul(1<<32, 1<<31)), answer{0, api.ErrOver}},
		{"-2^32 * 2^31", answered(exacts.Mul(-1<<32, 1<<31)), answer{least, api.OK}},
		{"2^32 * 2^32", answered(exacts.Mul(1<<32, 1<<32)), answer{0, api.ErrOver}},
		{"least * -1", answered(exacts.Mul(least, -1)), answer{0, api.ErrOver}},
		{"-1 * least", answered(exacts.Mul(-1, least)), answer{0, api.ErrOver}},
		{"least * 1", answered(exacts.Mul(least, 1)), answer{least, api.OK}},
		{"least * least", answered(exacts.Mul(least, least)), answer{0, api.ErrOver}},
		{"least * 0", answered(exacts.Mul(least, 0)), answer{0, api.OK}},
		{"most * -1", answered(exacts.Mul(most, -1)), answer{-most, api.OK}},
		{"-7 * -6", answered(exacts.Mul(-7, -6)), answer{42, api.OK}},
	} {
		if c.got != c.want {
			t.Errorf("%s: %v, not %v", c.name, c.got, c.want)
		}
	}
}

// P1.1, against numbers of any length.
func TestTwo(t *testing.T) {
	some := sample(400)
	for _, f := range twos {
		for _, a := range edges {
			for _, b := range edges {
				holdTwo(t, f, a, b)
			}
		}
		for i, a := range some {
			for _, b := range some[:i] {
				holdTwo(t, f, a, b)
			}
		}
	}
}

func holdSum(t *testing.T, l []int64) {
	t.Helper()
	all := new(big.Int)
	for _, n := range l {
		all.Add(all, wide(n))
	}
	want := answered(told(all))
	if got := answered(exacts.Sum(l...)); got != want {
		t.Errorf("Sum of %d numbers: %v, not %v", len(l), got, want)
	}
}

// P1.2, at what the document shows, and where 64 bits would turn round to a number that looks right.
func TestSumByHand(t *testing.T) {
	for i, c := range []struct {
		l    []int64
		want answer
	}{
		{nil, answer{0, api.OK}},
		{[]int64{}, answer{0, api.OK}},
		{[]int64{least}, answer{least, api.OK}},
		{[]int64{most}, answer{most, api.OK}},
		{[]int64{1, 2, 3}, answer{6, api.OK}},
		{[]int64{5, -7}, answer{-2, api.OK}},
		{[]int64{most, 9, -9}, answer{most, api.OK}},
		{[]int64{least, -9, 9}, answer{least, api.OK}},
		{[]int64{most, 9, -8}, answer{0, api.ErrOver}},
		{[]int64{least, -9, 8}, answer{0, api.ErrOver}},
		{[]int64{least, least}, answer{0, api.ErrOver}},
		{[]int64{most, most, 2}, answer{0, api.ErrOver}},
		{[]int64{most, most, 2, 5}, answer{0, api.ErrOver}},
		{[]int64{least, least, most, most, 2}, answer{0, api.OK}},
		{[]int64{most, most, most, least, least, least, 3}, answer{0, api.OK}},
	} {
		if got := answered(exacts.Sum(c.l...)); got != c.want {
			t.Errorf("%d: Sum(%v): %v, not %v", i, c.l, got, c.want)
		}
	}
	if got := answered(exacts.Sum()); got != (answer{}) {
		t.Errorf("Sum(): %v", got)
	}
}

// P1.2, with numbers on the way that need far more than 64 bits.
func TestSum(t *testing.T) {
	const many = 100000
	up, down := slices.Repeat([]int64{most}, many), slices.Repeat([]int64{-most}, many)
	holdSum(t, up)
	holdSum(t, down)
	holdSum(t, slices.Concat(up, down))
	holdSum(t, slices.Concat(up, down, []int64{most}))
	holdSum(t, slices.Concat(down, up, []int64{least}))
	holdSum(t, slices.Concat(down, up, []int64{least, -1}))
	some := sample(600)
	for i := range some {
		holdSum(t, some[i:])
		holdSum(t, some[i:min(i+3, len(some))])
	}
	for _, a := range edges {
		for _, b := range edges {
			for _, c := range edges {
				holdSum(t, []int64{a, b, c})
			}
		}
	}
}

// R1: what is handed in stays.
func TestSumLeavesWhatItIsGiven(t *testing.T) {
	l := []int64{most, 3, -3, least}
	was := slices.Clone(l)
	exacts.Sum(l[:2]...)
	exacts.Sum(l...)
	if !slices.Equal(l, was) {
		t.Errorf("%v has become %v", was, l)
	}
}

func holdBy(t *testing.T, a, num, den int64) {
	t.Helper()
	down, up := answer{0, api.ErrArg}, answer{0, api.ErrArg}
	if a >= 0 && num >= 0 && den >= 1 {
		whole, left := new(big.Int), new(big.Int)
		whole.QuoRem(new(big.Int).Mul(wide(a), wide(num)), wide(den), left)
		down = answered(told(whole))
		if left.Sign() != 0 {
			whole.Add(whole, wide(1))
		}
		up = answered(told(whole))
	}
	if got := answered(exacts.Down(a, num, den)); got != down {
		t.Errorf("Down(%d, %d, %d): %v, not %v", a, num, den, got, down)
	}
	if got := answered(exacts.Up(a, num, den)); got != up {
		t.Errorf("Up(%d, %d, %d): %v, not %v", a, num, den, got, up)
	}
}

// P1.3, at what the document shows, and at each bound.
func TestDownUpByHand(t *testing.T) {
	arg, over := answer{0, api.ErrArg}, answer{0, api.ErrOver}
	is := func(n int64) answer { return answer{n, api.OK} }
	for _, c := range []struct {
		a, num, den int64
		down, up    answer
	}{
		{7, 3, 2, is(10), is(11)},
		{8, 3, 2, is(12), is(12)},
		{0, 0, 1, is(0), is(0)},
		{0, most, most, is(0), is(0)},
		{1, 1, most, is(0), is(1)},
		{most, 1, 1, is(most), is(most)},
		// The product is too great, the quotient is not.
		{most, 5, 5, is(most), is(most)},
		{most, most, most, is(most), is(most)},
		{1 << 40, 1 << 40, 1 << 20, is(1 << 60), is(1 << 60)},
		{1<<62 + 1, 1<<62 + 1, 1 << 62, is(1<<62 + 2), is(1<<62 + 3)},
		// 3 times this is 2^64 - 1: half of it is the greatest number, and a half.
		{6148914691236517205, 3, 2, is(most), over},
		{most, 2, 1, over, over},
		{1 << 62, 2, 1, over, over},
		{1 << 62, 4, 2, over, over},
		// The quotient is 2^64, and 2^64 times more: what is left in one word is 0.
		{1 << 62, 4, 1, over, over},
		{most, most, 1, over, over},
		{most, most, most - 1, over, over},
		{1, 1, 0, arg, arg},
		{1, 1, -1, arg, arg},
		{1, 1, least, arg, arg},
		{0, 0, 0, arg, arg},
		{-1, 1, 1, arg, arg},
		{1, -1, 1, arg, arg},
		{-1, -1, 1, arg, arg},
		{least, 1, 1, arg, arg},
		{1, least, 1, arg, arg},
		{0, -1, 1, arg, arg},
		{-1, 0, 1, arg, arg},
		// ErrArg is named ahead of ErrOver.
		{most, most, 0, arg, arg},
		{least, least, 1, arg, arg},
	} {
		if got := answered(exacts.Down(c.a, c.num, c.den)); got != c.down {
			t.Errorf("Down(%d, %d, %d): %v, not %v", c.a, c.num, c.den, got, c.down)
		}
		if got := answered(exacts.Up(c.a, c.num, c.den)); got != c.up {
			t.Errorf("Up(%d, %d, %d): %v, not %v", c.a, c.num, c.den, got, c.up)
		}
	}
}

// P1.3, against numbers of any length.
func TestDownUp(t *testing.T) {
	for _, l := range [][]int64{edges, sample(40)} {
		for _, a := range l {
			for _, num := range l {
				for _, den := range l {
					holdBy(t, a, num, den)
				}
			}
		}
	}
}

// P1.4: what is added is taken off again.
func TestAddedIsTakenOff(t *testing.T) {
	l := slices.Concat(edges, sample(200))
	for _, a := range l {
		for _, b := range l {
			sum, e := exacts.Add(a, b)
			if e != api.OK {
				continue
			}
			if got := answered(exacts.Sub(sum, b)); got != (answer{a, api.OK}) {
				t.Errorf("%d + %d - %d: %v", a, b, b, got)
			}
			if got := answered(exacts.Sub(sum, a)); got != (answer{b, api.OK}) {
				t.Errorf("%d + %d - %d: %v", a, b, a, got)
			}
		}
	}
}

func holdBetween(t *testing.T, a, num, den int64) {
	t.Helper()
	down, e := exacts.Down(a, num, den)
	if e != api.OK {
		return
	}
	left := new(big.Int).Mul(wide(a), wide(num))
	left.Sub(left, new(big.Int).Mul(wide(down), wide(den)))
	if left.Sign() < 0 || left.Cmp(wide(den)) >= 0 {
		t.Errorf("Down(%d, %d, %d) times %d leaves %v", a, num, den, den, left)
	}
	want := answer{down, api.OK}
	if left.Sign() != 0 {
		want = answered(exacts.Add(down, 1))
	}
	if got := answered(exacts.Up(a, num, den)); got != want {
		t.Errorf("Up(%d, %d, %d): %v, not %v", a, num, den, got, want)
	}
}

// P1.4: between Down and Up lies the exact quotient.
func TestDownAndUpHoldTheQuotient(t *testing.T) {
	l := slices.Concat(edges, sample(30))
	for _, a := range l {
		for _, num := range l {
			for _, den := range l {
				holdBetween(t, a, num, den)
			}
		}
	}
}
