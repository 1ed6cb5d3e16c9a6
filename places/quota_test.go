package places

import (
	"slices"
	"testing"

	"countinghouse/api"
	"countinghouse/books"
	"countinghouse/fills"
	"countinghouse/ledgers"
)

// P12.1: just so many fills as may be, and one more. A book has fewer offers than MaxFills, and each has one fill at most, so this is asked of lesser numbers.
func TestQuota(t *testing.T) {
	for _, c := range []struct {
		left  int64
		quota int
		got   []int64
		rest  int64
		e     api.Errno
	}{
		{1, 1, []int64{1}, 0, api.OK}, {2, 1, []int64{2}, 0, api.OK}, {3, 2, []int64{2, 1}, 0, api.OK}, {4, 2, []int64{2, 2}, 0, api.OK}, {5, 3, []int64{2, 2, 1}, 0, api.OK}, {6, 3, []int64{2, 2, 2}, 0, api.OK}, {6, 4, []int64{2, 2, 2}, 0, api.OK},
		// Something is left then, but nothing may be filled: the way of 1 has an end.
		{7, 3, []int64{2, 2, 2}, 1, api.OK}, {99, 3, []int64{2, 2, 2}, 93, api.OK}, {99, 64, []int64{2, 2, 2}, 93, api.OK},
		{1, 0, nil, 1, api.ErrQuota}, {3, 1, nil, 1, api.ErrQuota}, {5, 2, nil, 1, api.ErrQuota}, {6, 2, nil, 2, api.ErrQuota}, {99, 2, nil, 95, api.ErrQuota},
	} {
		h := fills.House{L: ledgers.New(), B: books.New()}
		h.L.Open(1)
		h.L.Open(2)
		h.L.Trust(1, 2, 1, 6)
		h.L.Trust(2, 1, 2, 99)
		for range 4 {
			h.B.Place(2, 1, 2, 2, api.Rat{Num: 1, Den: 1})
		}
		o := coming{Owner: 1, Sell: 2, Buy: 1, Left: c.left, Rate: api.Rat{Num: 1, Den: 1}}
		all, e := o.fill(h, c.quota)
		var got []int64
		for _, f := range all {
			got = append(got, f.Got)
		}
		if !slices.Equal(got, c.got) || o.Left != c.rest || e != c.e {
			t.Errorf("%d, by %d fills: %v, %d left, %v", c.left, c.quota, all, o.Left, e)
		}
	}
}
