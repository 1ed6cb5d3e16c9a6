package rounds_test

import (
	"fmt"
	"slices"
	"testing"

	"countinghouse/api"
	"countinghouse/paths"
	"countinghouse/rounds"
)

// dice throws the same numbers in each run.
type dice uint64

func (d *dice) below(n int) int {
	*d = *d*6364136223846793005 + 1442695040888963407
	return int(*d >> 33 % dice(n))
}

// some parties, in any order.
func (d *dice) some(n int) []api.Party {
	l := all()
	for i := range l {
		j := i + d.below(len(l)-i)
		l[i], l[j] = l[j], l[i]
	}
	return l[:n]
}

// debts between these parties, of a hundred pairs so many, each of up to so much.
func (d *dice) debts(parties []api.Party, dense int, high int64) (l []api.Flow) {
	for _, a := range parties {
		for _, b := range parties {
			if a != b && d.below(100) < dense {
				n := int64(d.below(1<<20))<<20 + int64(d.below(1<<20))
				l = append(l, owes(a, b, 1+n%high))
			}
		}
	}
	return standing(l)
}

// together is what is owed.
func together(debts []api.Flow) (sum int64) {
	for _, x := range debts {
		sum += x.N
	}
	return sum
}

// stands is what is owed to each, less what they owe.
func stands(debts []api.Flow) (m [17]int64) {
	for _, x := range debts {
		m[x.From] -= x.N
		m[x.To] += x.N
	}
	return m
}

// byEnds are debts by their ends.
func byEnds(debts []api.Flow) map[[2]api.Party]int64 {
	m := map[[2]api.Party]int64{}
	for _, x := range debts {
		m[[2]api.Party{x.From, x.To}] = x.N
	}
	return m
}

// plain is a cancelling as the document's words have it: what is left, and was taken, by the debts' ends.
type plain struct {
	debts       []api.Flow
	left, taken map[[2]api.Party]int64
}

func (m plain) edges() (l []paths.Edge) {
	for _, x := range m.debts {
		ends := [2]api.Party{x.From, x.To}
		if m.left[ends] > 0 {
			l = append(l, paths.Edge{From: x.From, To: x.To, Cost: -1})
		}
		if m.taken[ends] > 0 {
			l = append(l, paths.Edge{From: x.To, To: x.From, Cost: 1})
		}
	}
	return l
}

// cancel a round; back: how many of its steps give back.
func (m plain) cancel(round []api.Party) (back int) {
	n := most
	for i, p := range round {
		q := round[(i+1)%len(round)]
		if left := m.left[[2]api.Party{p, q}]; left > 0 {
			n = min(n, left)
		} else {
			n = min(n, m.taken[[2]api.Party{q, p}])
			back++
		}
	}
	for i, p := range round {
		q := round[(i+1)%len(round)]
		if there, other := [2]api.Party{p, q}, [2]api.Party{q, p}; m.left[there] > 0 {
			m.left[there] -= n
			m.taken[there] += n
		} else {
			m.taken[other] -= n
			m.left[other] += n
		}
	}
	return back
}

// plainly cancelled debts; back: how many steps of all rounds gave back.
func plainly(debts []api.Flow) (left []api.Flow, many int64, back int) {
	m := plain{debts, byEnds(debts), map[[2]api.Party]int64{}}
	for r := paths.Round(m.edges()); len(r) > 0; r = paths.Round(m.edges()) {
		back += m.cancel(r)
		many++
	}
	for _, x := range debts {
		if n := m.left[[2]api.Party{x.From, x.To}]; n > 0 {
			left = append(left, owes(x.From, x.To, n))
		}
	}
	return left, many, back
}

const far = 1000

// better: could less be left, round any way of debts, or by taking less elsewhere? It is so, if a way back to where it began costs less than 0.
func better(debts, left []api.Flow) bool {
	var m [17][17]int
	for a := range m {
		for b := range m {
			m[a][b] = far
		}
	}
	is := byEnds(left)
	for _, x := range debts {
		n := is[[2]api.Party{x.From, x.To}]
		if n > 0 {
			m[x.From][x.To] = -1
		}
		if n < x.N {
			m[x.To][x.From] = min(m[x.To][x.From], 1)
		}
	}
	for over := range m {
		for a := range m {
			for b := range m {
				m[a][b] = max(-far, min(m[a][b], m[a][over]+m[over][b]))
			}
		}
	}
	return slices.ContainsFunc(all(), func(p api.Party) bool { return m[p][p] < 0 })
}

// follows: each stands as ahead of it, no debt is more, nor is there another one, and what is left is the least.
func follows(t *testing.T, what string, debts, left []api.Flow) {
	t.Helper()
	if stands(left) != stands(debts) {
		t.Fatalf("%s: they stand as %v, not %v", what, stands(left), stands(debts))
	}
	was := byEnds(debts)
	for i, x := range left {
		if x.N < 1 || x.N > was[[2]api.Party{x.From, x.To}] {
			t.Fatalf("%s: %v is left of %v", what, x, debts)
		}
		if i > 0 && (left[i-1].From > x.From || left[i-1].From == x.From && left[i-1].To >= x.To) {
			t.Fatalf("%s: %v does not stand in order", what, left)
		}
	}
	if better(debts, left) {
		t.Fatalf("%s: less than %v could be left of %v", what, left, debts)
	}
}

// smallest of all that may be left, together, of debts, so that they stand so: by trying each number of each debt.
func smallest(debts []api.Flow, need [17]int64) int64 {
	if len(debts) == 0 {
		if need == [17]int64{} {
			return 0
		}
		return most
	}
	best := most
	x := debts[0]
	for n := range x.N + 1 {
		rest := need
		rest[x.From] += n
		rest[x.To] -= n
		if got := smallest(debts[1:], rest); got < most {
			best = min(best, n+got)
		}
	}
	return best
}

// P8.2: of a few small debts what is left, together, is the least of all whole numbers that may be.
func TestWalkOfSmallest(t *testing.T) {
	less, stays := 0, 0
	for seed := range 3000 {
		d := dice(seed)
		debts := d.debts(d.some(3+d.below(3)), 40+d.below(50), 3)
		debts = debts[:min(len(debts), 7)]
		left, many, e := rounds.Least(debts, most)
		want := smallest(debts, stands(debts))
		if e != api.OK || together(left) != want {
			t.Fatalf("walk %d: Least(%v): %v, %d, %v; but %d is the least", seed, debts, left, many, e, want)
		}
		if (many > 0) != (want < together(debts)) {
			t.Fatalf("walk %d: Least(%v): %d rounds", seed, debts, many)
		}
		if many > 0 {
			less++
		} else {
			stays++
		}
	}
	if less < 500 || stays < 300 {
		t.Errorf("%d times less, %d times all was left", less, stays)
	}
}

// P8.1, P8.2: of a few parties, and of many, whatever debts there are: the plain cancelling's answer, whatever quota there is.
func TestWalk(t *testing.T) {
	counts, backs := map[int64]int{}, 0
	for seed := range 4000 {
		d := dice(seed)
		parties := 2 + d.below(6)
		if d.below(20) == 0 {
			parties = 16
		}
		debts := d.debts(d.some(parties), 20+d.below(80), []int64{1, 2, 5, 30, top}[d.below(5)])
		left, many, back := plainly(debts)
		cancelled(t, fmt.Sprint("walk ", seed), debts, many, left...)
		counts[min(many, 9)]++
		if back > 0 {
			backs++
		}
	}
	for many := range int64(10) {
		if counts[many] < 50 {
			t.Errorf("%d rounds went %d times only", many, counts[many])
		}
	}
	if backs < 500 {
		t.Errorf("%d times only something was given back", backs)
	}
}

// P8.1: each quota from 0 to what is owed together: ErrQuota up to one less than go.
func TestWalkOfQuotas(t *testing.T) {
	highest := int64(0)
	for seed := range 200 {
		d := dice(seed)
		debts := d.debts(d.some(2+d.below(5)), 30+d.below(70), 4)
		left, many, _ := plainly(debts)
		for quota := range together(debts) + 2 {
			what := fmt.Sprint("walk ", seed)
			if quota < many {
				asked(t, what, debts, quota, api.ErrQuota, 0)
			} else {
				asked(t, what, debts, quota, api.OK, many, left...)
			}
		}
		highest = max(highest, many)
	}
	if highest < 10 {
		t.Errorf("%d rounds went at most", highest)
	}
}

// P8.1, P8.2: all 240 pairs, of whatever there is.
func TestWalkOfAllPairs(t *testing.T) {
	for seed := range 60 {
		d := dice(seed)
		debts := d.debts(all(), 100, []int64{2, 9, 1000, top}[d.below(4)])
		left, many, back := plainly(debts)
		cancelled(t, fmt.Sprint("walk ", seed), debts, many, left...)
		if len(debts) != 240 || many < 20 || back == 0 {
			t.Errorf("walk %d: of %d debts %d rounds went, %d steps gave back", seed, len(debts), many, back)
		}
	}
}

// P8.2: of what is left no round goes any more; and debts that are asked for by the other parties' numbers leave as much, together.
func TestWalkOfOtherNumbers(t *testing.T) {
	for seed := range 300 {
		d := dice(seed)
		debts := d.debts(all(), 10+d.below(40), []int64{3, 50, top}[d.below(3)])
		left, _, e := rounds.Least(debts, most)
		if e != api.OK {
			t.Fatalf("walk %d: %v", seed, e)
		}
		asked(t, "left", left, 0, api.OK, 0, left...)
		others := d.some(16)
		var renamed []api.Flow
		for _, x := range debts {
			renamed = append(renamed, owes(others[x.From-1], others[x.To-1], x.N))
		}
		again, _, e := rounds.Least(standing(renamed), most)
		if e != api.OK || together(again) != together(left) {
			t.Fatalf("walk %d: %d is left, and %d by other numbers, %v", seed, together(left), together(again), e)
		}
	}
}
