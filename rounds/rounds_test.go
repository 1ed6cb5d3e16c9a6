package rounds_test

import (
	"cmp"
	"fmt"
	"math"
	"slices"
	"testing"

	"countinghouse/api"
	"countinghouse/rounds"
)

const (
	top   = int64(api.MaxAmount)
	most  = int64(math.MaxInt64)
	least = int64(math.MinInt64)
)

// owes is a debt, as the document's examples have it: one owes the other one so much.
func owes(a, b api.Party, n int64) api.Flow { return api.Flow{From: a, To: b, N: n} }

// standing is a list of debts as they must stand: by From, of one by To.
func standing(lists ...[]api.Flow) []api.Flow {
	l := slices.Concat(lists...)
	slices.SortFunc(l, func(a, b api.Flow) int { return cmp.Or(cmp.Compare(a.From, b.From), cmp.Compare(a.To, b.To)) })
	return l
}

// chain: each party owes the next one so much.
func chain(n int64, parties ...api.Party) (l []api.Flow) {
	for i, p := range parties[1:] {
		l = append(l, owes(parties[i], p, n))
	}
	return standing(l)
}

// ring: and the last one the first one.
func ring(n int64, parties ...api.Party) []api.Flow {
	return standing(chain(n, append(slices.Clone(parties), parties[0])...))
}

// all parties, rising.
func all() (l []api.Party) {
	for p := range api.Party(16) {
		l = append(l, p+1)
	}
	return l
}

// full has each of the 240 pairs; low is what a lesser party owes a greater one, high the other way round.
func full(low, high int64) (l []api.Flow) {
	for _, a := range all() {
		for _, b := range all() {
			if a < b {
				l = append(l, owes(a, b, low))
			} else if a > b {
				l = append(l, owes(a, b, high))
			}
		}
	}
	return l
}

// without is the list of the debts of which nothing is left let go.
func without(l []api.Flow) []api.Flow {
	return slices.DeleteFunc(slices.Clone(l), func(x api.Flow) bool { return x.N == 0 })
}

// asked: the call answers so, twice; and the answer is memory of its own, with nothing in its room behind, and the debts stay, and what is in the room behind them.
func asked(t *testing.T, what string, debts []api.Flow, quota int64, e api.Errno, many int64, left ...api.Flow) {
	t.Helper()
	what = fmt.Sprintf("%s: Least(%v, %d)", what, debts, quota)
	room := append(slices.Clone(debts), owes(1, 2, 3), owes(2, 1, 3))
	was := slices.Clone(room)
	handed := room[:len(debts)]
	if debts == nil {
		handed = nil
	}
	for range 2 {
		got, n, err := rounds.Least(handed, quota)
		if !slices.Equal(got, left) || n != many || err != e || cap(got) != len(got) {
			t.Fatalf("%s: %v in %d, %d, %v; not %v, %d, %v", what, got, cap(got), n, err, left, many, e)
		}
		clear(got)
		if !slices.Equal(room, was) {
			t.Fatalf("%s: the debts are %v, not %v", what, room, was)
		}
	}
}

// cancelled: so much is left behind so many rounds, whatever quota is enough; with a lesser one there is ErrQuota; with one below 0, ErrArg. What follows holds.
func cancelled(t *testing.T, what string, debts []api.Flow, many int64, left ...api.Flow) {
	t.Helper()
	sum := together(debts)
	if many > sum {
		t.Fatalf("%s: %d rounds, but %v is %d together", what, many, debts, sum)
	}
	for _, quota := range []int64{many, many + 1, sum, most - 1, most} {
		asked(t, what, debts, quota, api.OK, many, left...)
	}
	for _, quota := range []int64{0, 1, many / 2, many - 1} {
		if quota >= 0 && quota < many {
			asked(t, what, debts, quota, api.ErrQuota, 0)
		}
	}
	for _, quota := range []int64{-1, -many - 1, least} {
		asked(t, what, debts, quota, api.ErrArg, 0)
	}
	follows(t, what, debts, left)
}

// refused: ErrArg, whatever the quota is.
func refused(t *testing.T, what string, debts []api.Flow) {
	t.Helper()
	for _, quota := range []int64{least, -1, 0, 1, 9, top, most} {
		asked(t, what, debts, quota, api.ErrArg, 0)
	}
}

// The document's examples.
func TestExamples(t *testing.T) {
	debts := []api.Flow{owes(1, 2, 5), owes(2, 3, 3), owes(3, 1, 4)}
	asked(t, "example", debts, 9, api.OK, 1, owes(1, 2, 2), owes(3, 1, 1))
	asked(t, "example", debts, 0, api.ErrQuota, 0)
	asked(t, "example", debts[:1], 0, api.OK, 0, owes(1, 2, 5))
	asked(t, "example", []api.Flow{owes(1, 1, 5)}, 9, api.ErrArg, 0)
}

// P8.1: without debts, and without a ring of them, no round goes: all is left.
func TestNoRing(t *testing.T) {
	cancelled(t, "none", nil, 0)
	cancelled(t, "none", []api.Flow{}, 0)
	for i, debts := range [][]api.Flow{
		chain(1, 1, 2),
		chain(top, 16, 1),
		chain(5, 1, 2, 3),
		chain(5, 3, 2, 1),
		chain(7, all()...),
		chain(7, 9, 1, 16, 2, 15, 3, 14, 4, 13, 5, 12, 6, 11, 7, 10, 8),
		// Two ways, that part and meet again; a shorter way beside a longer one; two that owe one, one that owes two.
		standing(chain(4, 1, 2, 4), chain(4, 1, 3, 4)),
		standing(chain(4, 1, 2, 3), chain(2, 1, 3)),
		standing(chain(4, 5, 2), chain(3, 9, 2)),
		standing(chain(4, 5, 2), chain(3, 5, 9)),
		standing(chain(4, 1, 2), chain(3, 3, 4)),
		// Whichever pairs there are, from greater parties to lesser ones only, or the other way.
		slices.DeleteFunc(full(3, 1), func(x api.Flow) bool { return x.From > x.To }),
		slices.DeleteFunc(full(3, top), func(x api.Flow) bool { return x.From < x.To }),
	} {
		cancelled(t, fmt.Sprint(i), debts, 0, debts...)
	}
}

// P8.1: of a ring just its least debt goes, wherever it stands, and each other one is less by it.
func TestRing(t *testing.T) {
	for _, parties := range [][]api.Party{
		{1, 2}, {2, 1}, {1, 16}, {16, 15}, {7, 3},
		{1, 2, 3}, {3, 2, 1}, {5, 16, 9}, {4, 8, 2, 16}, {2, 1, 4, 3, 6},
		{9, 1, 16, 2, 15, 3, 14, 4, 13, 5, 12, 6, 11, 7, 10, 8}, all(),
	} {
		debts := ring(5, parties...)
		cancelled(t, "alike", debts, 1)
		cancelled(t, "of 1", ring(1, parties...), 1)
		cancelled(t, "the greatest", ring(top, parties...), 1)
		for at := range debts {
			for _, n := range []int64{1, 3, 4} {
				for i := range debts {
					debts[i].N = 5 + int64(i)*2
				}
				debts[at].N = n
				left := slices.Clone(debts)
				for i := range left {
					left[i].N -= n
				}
				cancelled(t, fmt.Sprint("least at ", at), debts, 1, without(left)...)
			}
		}
	}
}

// P8.1: two debts of one pair, each way: the greater one is left, less by the lesser one.
func TestPair(t *testing.T) {
	for _, ends := range [][2]api.Party{{1, 2}, {1, 16}, {15, 16}, {6, 11}} {
		a, b := ends[0], ends[1]
		for _, n := range []int64{1, 2, 5, top - 1, top} {
			cancelled(t, "alike", []api.Flow{owes(a, b, n), owes(b, a, n)}, 1)
			for _, m := range []int64{1, 2, 5, top - 1, top} {
				if m < n {
					cancelled(t, "pair", []api.Flow{owes(a, b, n), owes(b, a, m)}, 1, owes(a, b, n-m))
					cancelled(t, "pair", []api.Flow{owes(a, b, m), owes(b, a, n)}, 1, owes(b, a, n-m))
				}
			}
		}
	}
}

// P8.1: rings that have nothing to do with one another go one behind the other; what is in no ring stays, where it stands.
func TestApart(t *testing.T) {
	for i, c := range []struct {
		debts []api.Flow
		many  int64
		left  []api.Flow
	}{
		{standing(ring(3, 1, 2), ring(3, 3, 4)), 2, nil},
		{standing(ring(3, 1, 2), ring(4, 5, 3, 4)), 2, nil},
		{standing(ring(3, 1, 2, 3, 4), ring(1, 16, 9), ring(top, 7, 6, 5)), 3, nil},
		{standing(ring(2, 1, 2), ring(2, 3, 4), ring(2, 5, 6), ring(2, 7, 8), ring(2, 9, 10), ring(2, 11, 12), ring(2, 13, 14), ring(2, 15, 16)), 8, nil},
		// One party in both: a ring is of parties, each once.
		{standing(ring(3, 1, 2), ring(4, 1, 3)), 2, nil},
		{standing(ring(3, 8, 2, 5), ring(4, 8, 3, 9, 1)), 2, nil},
		// What is in no ring: ahead of one, behind one, between two.
		{standing(ring(3, 1, 2), chain(9, 3, 1)), 1, chain(9, 3, 1)},
		{standing(ring(3, 1, 2), chain(9, 2, 3)), 1, chain(9, 2, 3)},
		{standing(ring(3, 1, 2), ring(2, 5, 6), chain(9, 2, 5)), 2, chain(9, 2, 5)},
		{standing(ring(3, 1, 2, 4), chain(9, 1, 3, 5), chain(1, 4, 6)), 1, standing(chain(9, 1, 3, 5), chain(1, 4, 6))},
		// Unlike debts: a rest of each ring, in the order of the debts.
		{[]api.Flow{owes(1, 2, 3), owes(2, 1, 1), owes(3, 4, 2), owes(4, 3, 2)}, 2, chain(2, 1, 2)},
		{[]api.Flow{owes(1, 9, 4), owes(2, 8, 7), owes(8, 2, 9), owes(9, 1, 7)}, 2, []api.Flow{owes(8, 2, 2), owes(9, 1, 3)}},
	} {
		cancelled(t, fmt.Sprint(i), c.debts, c.many, c.left...)
	}
}

// P8.1, P8.2: rings with a debt in common, of which the longer one should have it.
func TestShared(t *testing.T) {
	for i, c := range []struct {
		debts []api.Flow
		many  int64
		left  []api.Flow
	}{
		// 1 owes 2 is in both; there is enough of it.
		{[]api.Flow{owes(1, 2, 4), owes(2, 3, 2), owes(2, 4, 2), owes(3, 1, 2), owes(4, 1, 2)}, 2, nil},
		{[]api.Flow{owes(1, 2, 9), owes(2, 3, 2), owes(2, 4, 3), owes(3, 1, 2), owes(4, 1, 3)}, 2, chain(4, 1, 2)},
		// There is not: the longer ring has what it can, the other one the rest.
		{[]api.Flow{owes(1, 2, 3), owes(2, 3, 2), owes(2, 4, 2), owes(3, 1, 2), owes(4, 5, 2), owes(5, 1, 2)}, 2, chain(1, 2, 3, 1)},
		{[]api.Flow{owes(1, 2, 3), owes(2, 3, 2), owes(2, 4, 2), owes(3, 5, 2), owes(4, 1, 2), owes(5, 1, 2)}, 2, chain(1, 2, 4, 1)},
		{[]api.Flow{owes(1, 2, 2), owes(2, 3, 2), owes(2, 4, 2), owes(3, 1, 2), owes(4, 5, 2), owes(5, 1, 2)}, 1, chain(2, 2, 3, 1)},
		// A short ring that stands in the way of a longer one stays.
		{[]api.Flow{owes(1, 2, 1), owes(2, 1, 1), owes(2, 3, 1), owes(3, 4, 1), owes(4, 1, 1)}, 1, chain(1, 2, 1)},
		// Two as long as one another: the search comes to what 3 owes 1 ahead of what 4 does, which leads to no less.
		{[]api.Flow{owes(1, 2, 3), owes(2, 3, 2), owes(2, 4, 2), owes(3, 1, 2), owes(4, 1, 2)}, 2, chain(1, 2, 4, 1)},
	} {
		cancelled(t, fmt.Sprint(i), c.debts, c.many, c.left...)
	}
}

// P8.1, P8.2: what an earlier round took is given back, where more goes so; by hand, the rounds that go are told.
func TestGivingBack(t *testing.T) {
	for i, c := range []struct {
		debts []api.Flow
		many  int64
		left  []api.Flow
	}{
		// Round 2, 3 first; then 1, 3, 2, which gives back of what 2 owed 3: a part of it, all of it, and all, though more would be wanted.
		{[]api.Flow{owes(1, 3, 4), owes(2, 1, 3), owes(2, 3, 5), owes(3, 2, 5)}, 2, []api.Flow{owes(1, 3, 1), owes(2, 3, 3)}},
		{[]api.Flow{owes(1, 3, 5), owes(2, 1, 5), owes(2, 3, 5), owes(3, 2, 5)}, 2, []api.Flow{owes(2, 3, 5)}},
		{[]api.Flow{owes(1, 3, 7), owes(2, 1, 9), owes(2, 3, 5), owes(3, 2, 5)}, 2, []api.Flow{owes(1, 3, 2), owes(2, 1, 4), owes(2, 3, 5)}},
		{[]api.Flow{owes(1, 3, 1), owes(2, 1, top), owes(2, 3, top), owes(3, 2, top)}, 2, []api.Flow{owes(2, 1, top-1), owes(2, 3, 1)}},
		// Something of it was left anyhow: what is given back comes to it.
		{[]api.Flow{owes(1, 3, 3), owes(2, 1, 3), owes(2, 3, 9), owes(3, 2, 5)}, 2, []api.Flow{owes(2, 3, 7)}},
		// Round 1, 3 first; then 1, 3, 2, which gives back of what 3 owed 1.
		{[]api.Flow{owes(1, 3, 3), owes(2, 1, 2), owes(3, 1, 3), owes(3, 2, 2)}, 2, []api.Flow{owes(3, 1, 2)}},
		// Round 2, 3 first; then 1, 2, 3, which gives back of what 3 owed 2.
		{[]api.Flow{owes(1, 2, 3), owes(2, 3, 4), owes(3, 1, 2), owes(3, 2, 4)}, 2, []api.Flow{owes(1, 2, 1), owes(3, 2, 2)}},
		// Round 1, 2, 3 first; then 1, 3, 2, which gives back of what 2 owed 3: two rings of two are more than one of three.
		{[]api.Flow{owes(1, 2, 2), owes(1, 3, 2), owes(2, 1, 2), owes(2, 3, 2), owes(3, 1, 2)}, 2, []api.Flow{owes(2, 3, 2)}},
	} {
		_, many, back := plainly(c.debts)
		if back == 0 || many != c.many {
			t.Errorf("%d: nothing is given back of %v in %d rounds", i, c.debts, many)
		}
		cancelled(t, fmt.Sprint(i), c.debts, c.many, c.left...)
	}
}

// P8.1: what 8 owes 4 is taken and given back, again and again, by 4: so many rounds go, and each is counted.
func TestManyRounds(t *testing.T) {
	debts := []api.Flow{owes(1, 4, 1<<12), owes(1, 5, 1<<16), owes(2, 4, 1<<16), owes(3, 7, 1<<15), owes(4, 3, 1<<15), owes(5, 8, 1<<17), owes(7, 1, 1<<15), owes(8, 2, 1<<19), owes(8, 4, 4)}
	// Of the rings 1, 4, 3, 7 and 1, 5, 8, 4, 3, 7 nothing goes in the end: the longest one, 1, 5, 8, 2, 4, 3, 7, has it all.
	cancelled(t, "again and again", debts, 2052, owes(1, 4, 1<<12), owes(1, 5, 1<<15), owes(2, 4, 1<<15), owes(5, 8, 1<<17-1<<15), owes(8, 2, 1<<19-1<<15), owes(8, 4, 4))
}

// P8.1, P8.2: all 240 pairs.
func TestAllPairs(t *testing.T) {
	for _, n := range []int64{1, 2, 7, top} {
		debts := full(n, n)
		if len(debts) != 240 {
			t.Fatalf("%d pairs", len(debts))
		}
		_, many, _ := plainly(debts)
		cancelled(t, "alike", debts, many)
	}
	for _, c := range [][2]int64{{5, 3}, {3, 5}, {1, top}, {top, 1}, {top, top - 1}, {2, 1}} {
		debts := full(c[0], c[1])
		left, many, _ := plainly(debts)
		cancelled(t, "unlike", debts, many, left...)
	}
}

// P8.1: debts of which something was taken and something is left, of which nothing is left, and of which nothing was taken, in one list.
func TestLeftAndTaken(t *testing.T) {
	debts := []api.Flow{owes(1, 2, 8), owes(1, 9, 6), owes(2, 5, 3), owes(3, 4, 1), owes(4, 3, top), owes(5, 1, 7), owes(5, 9, 2)}
	cancelled(t, "mixed", debts, 2, owes(1, 2, 5), owes(1, 9, 6), owes(4, 3, top-1), owes(5, 1, 4), owes(5, 9, 2))
}

// P8.1: ErrArg, if an end is no party, or both are the same: each number that a party could have.
func TestEnds(t *testing.T) {
	for a := range 256 {
		for b := range 256 {
			debts := []api.Flow{owes(api.Party(a), api.Party(b), 5)}
			if 1 <= a && a <= 16 && 1 <= b && b <= 16 && a != b {
				asked(t, "ends", debts, 0, api.OK, 0, debts...)
			} else {
				asked(t, "ends", debts, 0, api.ErrArg, 0)
			}
		}
	}
	for i, debts := range [][]api.Flow{
		{owes(0, 1, 5)}, {owes(1, 0, 5)}, {owes(17, 1, 5)}, {owes(1, 17, 5)}, {owes(255, 1, 5)}, {owes(1, 255, 5)}, {owes(0, 0, 5)}, {owes(17, 17, 5)}, {owes(1, 1, 5)}, {owes(16, 16, 5)},
		// Ahead of others, between them, and behind them; with a ring.
		{owes(0, 2, 5), owes(1, 2, 5), owes(2, 1, 5)},
		{owes(1, 0, 5), owes(1, 2, 5), owes(2, 1, 5)},
		{owes(1, 1, 5), owes(1, 2, 5), owes(2, 1, 5)},
		{owes(1, 2, 5), owes(1, 17, 5), owes(2, 1, 5)},
		{owes(1, 2, 5), owes(2, 1, 5), owes(2, 2, 5)},
		{owes(1, 2, 5), owes(2, 1, 5), owes(2, 17, 5)},
		{owes(1, 2, 5), owes(2, 1, 5), owes(17, 1, 5)},
	} {
		refused(t, fmt.Sprint(i), debts)
	}
}

// P8.1: ErrArg, if a debt is not 1 to MaxAmount.
func TestAmounts(t *testing.T) {
	for _, n := range []int64{0, -1, -5, -top, least, top + 1, 2 * top, most} {
		for at := range 3 {
			debts := ring(5, 1, 2, 3)
			debts[at].N = n
			refused(t, "ring", debts)
		}
		refused(t, "alone", chain(n, 4, 7))
		refused(t, "all", ring(n, 1, 2, 3))
	}
	for _, n := range []int64{1, 2, top - 1, top} {
		cancelled(t, "alone", chain(n, 4, 7), 0, chain(n, 4, 7)...)
	}
}

// P8.1: ErrArg, if they don't stand by From, of one by To, each pair once.
func TestOrder(t *testing.T) {
	for i, debts := range [][]api.Flow{
		{owes(2, 1, 5), owes(1, 2, 5)},
		{owes(1, 3, 5), owes(1, 2, 5)},
		{owes(2, 16, 5), owes(1, 16, 5)},
		{owes(1, 2, 5), owes(3, 1, 5), owes(2, 3, 5)},
		{owes(2, 3, 5), owes(1, 2, 5), owes(3, 1, 5)},
		{owes(3, 1, 5), owes(2, 3, 5), owes(1, 2, 5)},
		// By To, of one by From.
		{owes(2, 1, 5), owes(3, 1, 5), owes(1, 2, 5)},
		{owes(1, 2, 5), owes(3, 2, 5), owes(1, 3, 5)},
		// A pair twice: one behind the other, apart, alike or not.
		{owes(1, 2, 5), owes(1, 2, 5)},
		{owes(1, 2, 5), owes(1, 2, 6)},
		{owes(1, 2, 5), owes(1, 2, 4)},
		{owes(1, 2, 5), owes(2, 1, 5), owes(2, 1, 5)},
		{owes(1, 2, 5), owes(2, 1, 5), owes(1, 2, 5)},
		{owes(1, 2, 5), owes(1, 3, 5), owes(1, 2, 5)},
		slices.Concat(full(1, 1), full(1, 1)),
		slices.Repeat([]api.Flow{owes(1, 2, 5)}, 70000),
	} {
		refused(t, fmt.Sprint(i), debts)
	}
	// From counts ahead of To.
	cancelled(t, "order", []api.Flow{owes(1, 16, 5), owes(2, 1, 5)}, 0, owes(1, 16, 5), owes(2, 1, 5))
	debts := full(4, 4)
	for i := range debts[1:] {
		l := slices.Clone(debts)
		l[i], l[i+1] = l[i+1], l[i]
		asked(t, "two in the other order", l, most, api.ErrArg, 0)
		l[i] = l[i+1]
		asked(t, "one twice", l, most, api.ErrArg, 0)
	}
}

// R2: of several errors ErrArg is told: quota below 0 whatever the debts are, and debts that may not be whatever would be left to go.
func TestErrors(t *testing.T) {
	for _, debts := range [][]api.Flow{nil, {}, chain(5, 1, 2), ring(5, 1, 2), ring(5, 1, 2, 3), full(1, 2)} {
		for _, quota := range []int64{-1, -2, -top, least + 1, least} {
			asked(t, "quota", debts, quota, api.ErrArg, 0)
		}
	}
	for _, wrong := range []api.Flow{owes(9, 9, 5), owes(9, 17, 5), owes(9, 0, 5), owes(9, 1, 0), owes(9, 1, top+1), owes(2, 1, 5), owes(1, 2, 5)} {
		refused(t, "a ring, and a wrong one", append(ring(5, 1, 2), wrong))
	}
}

// What is answered stays, whatever is asked behind it: nothing is kept from call to call.
func TestNothingKept(t *testing.T) {
	debts := []api.Flow{owes(1, 2, 5), owes(2, 3, 3), owes(3, 1, 4)}
	left, _, _ := rounds.Least(debts, 9)
	was := slices.Clone(left)
	rounds.Least(full(3, 1), most)
	rounds.Least(ring(2, 1, 2, 3), 0)
	if !slices.Equal(left, was) {
		t.Errorf("%v, not %v", left, was)
	}
	again, many, e := rounds.Least(left, 0)
	if !slices.Equal(again, was) || many != 0 || e != api.OK {
		t.Errorf("of what is left: %v, %d, %v", again, many, e)
	}
	if len(again) > 0 && len(left) > 0 && &again[0] == &left[0] {
		t.Error("the answer is the argument")
	}
}
