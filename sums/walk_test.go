package sums_test

import (
	"bytes"
	"hash/crc32"
	"slices"
	"testing"

	"countinghouse/sums"
)

// dice fall the same way in each run.
type dice uint64

func (d *dice) below(n int) int {
	*d = *d*6364136223846793005 + 1442695040888963407
	return int(uint64(*d) >> 33 % uint64(n))
}

func (d *dice) bytes(many int) []byte {
	b := make([]byte, many)
	kind := d.below(4)
	for i := range b {
		switch {
		case kind == 0, kind == 1 && d.below(8) == 0:
			b[i] = byte(d.below(256))
		case kind == 2:
			b[i] = 255
		}
	}
	return b
}

// P15.1: bytes of all lengths in pieces of all lengths, against the chapter's words and another's sums.
func TestWalkMore(t *testing.T) {
	d := dice(1)
	for range 4000 {
		b := d.bytes(d.below(400))
		want := plain(b)
		if n := sums.Of(b); n != want || n != crc32.ChecksumIEEE(b) {
			t.Fatalf("%v: %#x, not %#x", b, n, want)
		}
		n, at := uint32(0), 0
		for at < len(b) {
			next := at + d.below(min(len(b)-at, 1+d.below(60))+1)
			n = sums.More(n, b[at:next])
			at = next
		}
		if n != want {
			t.Fatalf("%v: %#x in pieces, not %#x", b, n, want)
		}
	}
}

// P15.1: of bytes of one length, the sum of three told apart is that of their sums. (TestEachWay counts on it.)
func TestWalkApart(t *testing.T) {
	d := dice(2)
	for range 2000 {
		many := d.below(100)
		a, b, c := d.bytes(many), d.bytes(many), d.bytes(many)
		all := make([]byte, many)
		for i := range all {
			all[i] = a[i] ^ b[i] ^ c[i]
		}
		if n := sums.Of(all); n != sums.Of(a)^sums.Of(b)^sums.Of(c) {
			t.Fatalf("%v, %v, %v: %#x", a, b, c, n)
		}
	}
}

// P15.2: bytes that end with their sum, or with about that, against the chapter's words.
func TestWalkEnds(t *testing.T) {
	d := dice(3)
	ends := 0
	for range 20000 {
		b := d.bytes(d.below(50))
		sum := plain(b)
		switch d.below(4) {
		case 0:
			sum = ^sum
		case 1:
			sum += uint32(d.below(5)) << (8 * d.below(4))
		case 2:
			sum ^= 1 << d.below(32)
		}
		tail := []byte{byte(sum), byte(sum >> 8), byte(sum >> 16), byte(sum >> 24)}
		if d.below(4) == 0 {
			slices.Reverse(tail)
		}
		all := slices.Concat(b, tail)
		want := bytes.Equal(all, sums.Put(b))
		if want {
			ends++
		}
		if sums.Ends(all) != want {
			t.Fatalf("%v: %v", all, !want)
		}
	}
	if ends < 2000 || ends > 18000 {
		t.Errorf("of 20000, %d end so", ends)
	}
}

// P15.3: what is put ends so; with some bits turned within 32 neighbouring
// ones it does not, wherever they begin: in the bytes, in the sum, and across.
func TestWalkTurned(t *testing.T) {
	d := dice(4)
	inside, sum, across := 0, 0, 0
	for range 60000 {
		b := d.bytes(d.below(60))
		all := sums.Put(b)
		if !sums.Ends(all) {
			t.Fatalf("%v does not end so", all)
		}
		last := 8*len(all) - 32
		first := d.below(last + 1)
		switch d.below(4) {
		case 0:
			first = last
		case 1:
			first = last - d.below(min(last, 31)+1)
		}
		places := []int{first + d.below(32)}
		dense := 1 + d.below(20)
		for p := first; p < first+32; p++ {
			if p != places[0] && d.below(20) < dense {
				places = append(places, p)
			}
		}
		switch low, high := slices.Min(places), slices.Max(places); {
		case high < 8*len(b):
			inside++
		case low >= 8*len(b):
			sum++
		default:
			across++
		}
		if other := turned(all, places...); sums.Ends(other) {
			t.Fatalf("%v ends so, with %v turned", all, places)
		}
	}
	if min(inside, sum, across) < 5000 {
		t.Errorf("%d in the bytes, %d in the sum, %d across", inside, sum, across)
	}
}
