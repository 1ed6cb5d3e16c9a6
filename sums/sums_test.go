package sums_test

import (
	"bytes"
	"hash/crc32"
	"slices"
	"testing"

	"countinghouse/api"
	"countinghouse/sums"
)

// digits are the bytes of the chapter's first example.
const digits = "123456789"

// plain is the sum as the chapter's words have it, bit by bit.
func plain(b []byte) uint32 {
	n := uint32(1<<32 - 1)
	for _, x := range b {
		for place := range 8 {
			unlike := n&1 != uint32(x)>>place&1
			n /= 2
			if unlike {
				n ^= 3988292384
			}
		}
	}
	return 1<<32 - 1 - n
}

// mixed is so many bytes, the same ones in each run.
func mixed(many int) []byte {
	b := make([]byte, many)
	x := uint64(88172645463325252)
	for i := range b {
		x ^= x << 13
		x ^= x >> 7
		x ^= x << 17
		b[i] = byte(x >> 32)
	}
	return b
}

// around is b with other bytes ahead of it and behind it, in the same room.
func around(b []byte) (piece, whole []byte) {
	whole = slices.Concat([]byte{170, 187, 204}, b, []byte{221, 238, 255, 17, 34, 51})
	return whole[3 : 3+len(b)], whole
}

// turned is b with some bits turned, counted from the first byte's lowest one.
func turned(b []byte, places ...int) []byte {
	other := slices.Clone(b)
	for _, p := range places {
		other[p/8] ^= 1 << (p % 8)
	}
	return other
}

// P15.1: the chapter's examples, and sums that are known.
func TestOfExamples(t *testing.T) {
	for _, k := range []struct {
		b    string
		want uint32
	}{
		{digits, 3421780262},
		{"", 0},
		{"\x00", 0xd202ef8d},
		{"\xff", 0xff000000},
		{"\x00\x00\x00\x00", 0x2144df1c},
		{"\xff\xff\xff\xff", 0xffffffff},
		{"a", 0xe8b7be43},
		{"abc", 0x352441c2},
		{"The quick brown fox jumps over the lazy dog", 0x414fa339},
	} {
		if n := sums.Of([]byte(k.b)); n != k.want {
			t.Errorf("%q: %#x, not %#x", k.b, n, k.want)
		}
	}
}

// P15.1: no bytes at all, and bytes that are not there.
func TestOfNothing(t *testing.T) {
	for _, b := range [][]byte{nil, {}, make([]byte, 0, 9), []byte("abc")[3:]} {
		if n := sums.Of(b); n != 0 {
			t.Errorf("%d of nothing", n)
		}
	}
}

// P15.1: one byte, each of the 256; and each of them behind another one.
func TestOfBytes(t *testing.T) {
	all := map[uint32]int{}
	for x := range 256 {
		b := []byte{byte(x)}
		n := sums.Of(b)
		all[n] = x
		if n != plain(b) {
			t.Errorf("%d: %#x, not %#x", x, n, plain(b))
		}
		for y := range 256 {
			two := []byte{byte(y), byte(x)}
			if n := sums.Of(two); n != plain(two) || n != sums.More(sums.Of(two[:1]), b) {
				t.Fatalf("%v: %#x, not %#x", two, n, plain(two))
			}
		}
	}
	if len(all) != 256 {
		t.Errorf("256 bytes have %d sums", len(all))
	}
}

// P15.1: long bytes, of one kind and of many, and whether one is gone, or two are the other way round.
func TestOfLong(t *testing.T) {
	for _, many := range []int{255, 256, 257, 65535, 65536, 65537, api.MaxFile} {
		for _, b := range [][]byte{mixed(many), make([]byte, many), bytes.Repeat([]byte{255}, many)} {
			if n := sums.Of(b); n != plain(b) || n != crc32.ChecksumIEEE(b) {
				t.Errorf("%d bytes: %#x, not %#x", many, n, plain(b))
			}
			if sums.Of(b) == sums.Of(b[1:]) {
				t.Errorf("%d bytes have the sum of one less", many)
			}
		}
		b := mixed(many)
		other := slices.Clone(b)
		slices.Reverse(other)
		if sums.Of(b) == sums.Of(other) {
			t.Errorf("%d bytes have the sum of the same ones the other way round", many)
		}
	}
}

// P15.1: bytes behind others, wherever they are cut, in two and in three; nothing ahead and nothing behind among them.
func TestMoreCut(t *testing.T) {
	for _, whole := range [][]byte{nil, {0}, {255}, []byte(digits), mixed(70), make([]byte, 40)} {
		want := plain(whole)
		for cut := range len(whole) + 1 {
			if n := sums.More(sums.Of(whole[:cut]), whole[cut:]); n != want {
				t.Errorf("%v, cut at %d: %#x, not %#x", whole, cut, n, want)
			}
			for next := cut; next <= len(whole); next++ {
				n := sums.More(0, whole[:cut])
				n = sums.More(n, whole[cut:next])
				n = sums.More(n, whole[next:])
				if n != want {
					t.Errorf("%v, cut at %d and %d: %#x, not %#x", whole, cut, next, n, want)
				}
			}
		}
	}
}

// P15.1: nothing behind leaves each sum as it is; nothing ahead has the sum 0.
func TestMoreNothing(t *testing.T) {
	for _, sum := range []uint32{0, 1, 2, 1 << 31, 3421780262, 1<<32 - 1} {
		for _, b := range [][]byte{nil, {}} {
			if n := sums.More(sum, b); n != sum {
				t.Errorf("%d: %d", sum, n)
			}
		}
	}
	for _, b := range [][]byte{{0}, []byte(digits), mixed(99)} {
		if n := sums.More(0, b); n != sums.Of(b) {
			t.Errorf("%v: %d, not %d", b, n, sums.Of(b))
		}
	}
}

// P15.1: of every sum there are bytes, so that more are put behind every number.
func TestMoreOfEach(t *testing.T) {
	for _, sum := range []uint32{0, 1, 2, 255, 256, 65535, 65536, 1 << 31, 3421780262, 1<<32 - 2, 1<<32 - 1} {
		for _, b := range [][]byte{{0}, {1}, {128}, {255}, []byte(digits), mixed(99)} {
			if n := sums.More(sum, b); n != crc32.Update(sum, crc32.IEEETable, b) {
				t.Errorf("%d, %v: %d", sum, b, n)
			}
		}
	}
}

// P15.1: byte by byte it is the same as all at once.
func TestMoreSteps(t *testing.T) {
	b := mixed(5000)
	n := sums.Of(nil)
	for i := range b {
		n = sums.More(n, b[i:i+1])
		if i%97 == 0 && n != plain(b[:i+1]) {
			t.Fatalf("%d bytes: %#x, not %#x", i+1, n, plain(b[:i+1]))
		}
	}
	if n != sums.Of(b) {
		t.Errorf("%#x, not %#x", n, sums.Of(b))
	}
}

// P15.2: the chapter's example, and others: the bytes, and behind them the sum, the lowest byte first.
func TestPutExamples(t *testing.T) {
	for _, k := range []struct{ b, want []byte }{
		{[]byte{0}, []byte{0, 141, 239, 2, 210}},
		{nil, []byte{0, 0, 0, 0}},
		{[]byte{}, []byte{0, 0, 0, 0}},
		{[]byte{255}, []byte{255, 0, 0, 0, 255}},
		{[]byte(digits), []byte(digits + "\x26\x39\xf4\xcb")},
		{[]byte("abc"), []byte("abc\xc2\x41\x24\x35")},
	} {
		if b := sums.Put(k.b); !bytes.Equal(b, k.want) {
			t.Errorf("%v: %v, not %v", k.b, b, k.want)
		}
		if !sums.Ends(k.want) {
			t.Errorf("%v does not end so", k.want)
		}
	}
}

// P15.2: what is put is the bytes as they are, and four more, by which the sum is told.
func TestPutParts(t *testing.T) {
	for many := range 300 {
		b := mixed(many)
		all := sums.Put(b)
		if len(all) != many+4 || !bytes.Equal(all[:many], b) {
			t.Fatalf("%d bytes: %v", many, all)
		}
		sum := plain(b)
		for place, x := range all[many:] {
			if uint32(x) != sum>>(8*place)%256 {
				t.Errorf("%d bytes: %v, not %#x", many, all[many:], sum)
			}
		}
	}
}

// P15.2: fewer than four bytes never end so, whatever they are.
func TestEndsShort(t *testing.T) {
	for x := range 256 {
		for many := range 4 {
			if b := bytes.Repeat([]byte{byte(x)}, many); sums.Ends(b) {
				t.Errorf("%v ends so", b)
			}
		}
	}
	if sums.Ends(nil) || sums.Ends([]byte{}) {
		t.Error("nothing ends so")
	}
	// What lies behind, in the same room, does not count.
	zeros := make([]byte, 9)
	for many := range 4 {
		if sums.Ends(zeros[:many]) || sums.Ends(zeros[9-many:]) {
			t.Errorf("%d bytes end so", many)
		}
	}
}

// P15.2: four bytes end so if they are the sum of nothing, and else they do not.
func TestEndsFour(t *testing.T) {
	if !sums.Ends([]byte{0, 0, 0, 0}) {
		t.Error("the sum of nothing is not told")
	}
	for place := range 4 {
		for x := 1; x < 256; x++ {
			b := make([]byte, 4)
			b[place] = byte(x)
			if sums.Ends(b) {
				t.Errorf("%v ends so", b)
			}
		}
	}
	for _, b := range [][]byte{{255, 255, 255, 255}, {1, 2, 3, 4}, []byte("abcd"), {0x26, 0x39, 0xf4, 0xcb}} {
		if sums.Ends(b) {
			t.Errorf("%v ends so", b)
		}
	}
}

// P15.2: five bytes end so only with the one sum of the first of them.
func TestEndsFive(t *testing.T) {
	for x := range 256 {
		for y := range 256 {
			b := sums.Put([]byte{byte(y)})
			b[0] = byte(x)
			if sums.Ends(b) != (x == y) {
				t.Errorf("%v: %v", b, sums.Ends(b))
			}
		}
	}
}

// P15.2: bytes that do not end with their sum: it is gone, short, elsewhere, of other bytes, or not turned in the end.
func TestEndsWrong(t *testing.T) {
	for _, b := range [][]byte{[]byte(digits), []byte("abc"), {0}, {255}, mixed(33), mixed(800)} {
		all := sums.Put(b)
		if !sums.Ends(all) {
			t.Fatalf("%v does not end so", all)
		}
		if sums.Ends(b) {
			t.Errorf("%v ends so", b)
		}
		for cut := 1; cut < len(all); cut++ {
			if sums.Ends(all[:len(all)-cut]) {
				t.Errorf("%v ends so without its last %d", all, cut)
			}
			if sums.Ends(all[cut:]) {
				t.Errorf("%v ends so without its first %d", all, cut)
			}
		}
		tail := all[len(b):]
		for _, wrong := range [][]byte{
			slices.Concat(tail, b),
			slices.Concat(b, sums.Put(nil)),
			slices.Concat(all, []byte{0}),
			slices.Concat(all, []byte{0, 0, 0, 0}),
			slices.Concat(all, tail),
			slices.Concat(b, []byte{^tail[0], ^tail[1], ^tail[2], ^tail[3]}),
		} {
			if sums.Ends(wrong) {
				t.Errorf("%v ends so", wrong)
			}
		}
	}
}

// P15.2: a sum whose bytes stand the other way round, or in any other order, is none.
func TestEndsOrder(t *testing.T) {
	for _, b := range [][]byte{[]byte(digits), []byte("abc"), {0}, mixed(33), mixed(801)} {
		all := sums.Put(b)
		at := len(b)
		for order := range 256 {
			from := [4]int{order % 4, order / 4 % 4, order / 16 % 4, order / 64}
			other := slices.Clone(all)
			for i, f := range from {
				other[at+i] = all[at+f]
			}
			if sums.Ends(other) != bytes.Equal(other, all) {
				t.Errorf("%v: %v", other, sums.Ends(other))
			}
		}
		other := slices.Clone(all)
		slices.Reverse(other[at:])
		if bytes.Equal(other, all) || sums.Ends(other) {
			t.Errorf("%v ends so", other)
		}
	}
}

// P15.2, P15.3: what is put ends so, once and twice.
func TestPutEnds(t *testing.T) {
	for many := range 300 {
		b := mixed(many)
		all := sums.Put(b)
		if !sums.Ends(all) || !sums.Ends(sums.Put(all)) {
			t.Errorf("%v does not end so", all)
		}
		// Behind any bytes and their sum stands the same number.
		if n := sums.Of(all); n != 0x2144df1c {
			t.Errorf("%v: %#x", all, n)
		}
	}
	for _, b := range [][]byte{make([]byte, api.MaxFile), mixed(api.MaxFile)} {
		if all := sums.Put(b); len(all) != api.MaxFile+4 || !sums.Ends(all) || sums.Ends(turned(all, 5)) || sums.Ends(turned(all, 8*len(all)-1)) {
			t.Errorf("%d bytes do not end so, or others do", len(all))
		}
	}
}

// P15.3: one bit turned, each of them.
func TestOneBit(t *testing.T) {
	for _, b := range [][]byte{nil, {0}, {255}, []byte(digits), mixed(64), make([]byte, 64)} {
		all := sums.Put(b)
		for p := range 8 * len(all) {
			if other := turned(all, p); sums.Ends(other) {
				t.Errorf("%v ends so", other)
			}
		}
	}
}

// P15.3: two bits turned, any two of which one lies within 32 from the other; and all between.
func TestTwoBits(t *testing.T) {
	for _, b := range [][]byte{nil, {0}, {255}, []byte(digits), mixed(40), make([]byte, 40)} {
		all := sums.Put(b)
		for p := range 8 * len(all) {
			between := []int{p}
			for q := p + 1; q < min(p+32, 8*len(all)); q++ {
				between = append(between, q)
				if other := turned(all, p, q); sums.Ends(other) {
					t.Errorf("%v ends so", other)
				}
				if other := turned(all, between...); sums.Ends(other) {
					t.Errorf("%v ends so", other)
				}
			}
		}
	}
}

// unlike is by how much the sum that bytes end with is not that of those ahead of it.
func unlike(all []byte) uint32 {
	at := len(all) - 4
	tail := all[at:]
	return sums.Of(all[:at]) ^ (uint32(tail[0]) | uint32(tail[1])<<8 | uint32(tail[2])<<16 | uint32(tail[3])<<24)
}

// P15.3: each way in which bits are turned within 32 neighbouring ones. What
// turned bits make of a sum is what each makes by itself, told apart; so that
// no way goes unseen just where of 32 such, none is made of the others.
func TestEachWay(t *testing.T) {
	for _, many := range []int{0, 1, 2, 3, 4, 5, 9, 64, 500} {
		for _, b := range [][]byte{mixed(many), make([]byte, many)} {
			all := sums.Put(b)
			if unlike(all) != 0 {
				t.Fatalf("%v does not end so", all)
			}
			for p := range 8*len(all) - 31 {
				var free [32]uint32 // by the highest bit
				for q := p; q < p+32; q++ {
					n := unlike(turned(all, q))
					for place := 31; place >= 0; place-- {
						if n>>place&1 == 1 {
							if free[place] == 0 {
								free[place] = n
								break
							}
							n ^= free[place]
						}
					}
					if n == 0 {
						t.Fatalf("%d bytes: at %d, the bit %d is made of those ahead of it", many, p, q)
					}
				}
			}
		}
	}
}

// P15.3: the 33 bits that the sum is made by are turned, and it ends so still: no more is promised.
func TestOneBitTooMany(t *testing.T) {
	all := sums.Put(mixed(50))
	for p := range 8*len(all) - 32 {
		places := []int{p}
		for bit := range 32 {
			if 3988292384>>(31-bit)&1 == 1 {
				places = append(places, p+32-bit)
			}
		}
		if !sums.Ends(turned(all, places...)) {
			t.Errorf("at %d: %v", p, places)
		}
		if sums.Ends(turned(all, places[1:]...)) {
			t.Errorf("at %d, without the first: %v", p, places)
		}
	}
}

// R1: no call changes what is handed in, or what lies around it in the same room.
func TestHandedInStays(t *testing.T) {
	for _, b := range [][]byte{nil, {0}, []byte(digits), mixed(64), sums.Put(mixed(9))} {
		piece, whole := around(b)
		kept := slices.Clone(whole)
		sums.Of(piece)
		sums.More(7, piece)
		sums.Ends(piece)
		all := sums.Put(piece)
		if !bytes.Equal(whole, kept) {
			t.Errorf("%v became %v", kept, whole)
		}
		for i := range all {
			all[i]++
		}
		if !bytes.Equal(whole, kept) {
			t.Errorf("%v is shared with an answer", kept)
		}
	}
}

// R4: what is answered is nobody else's, with nothing in its room behind.
func TestAnsweredIsOwn(t *testing.T) {
	for many := range 200 {
		b := mixed(many)
		one, other := sums.Put(b), sums.Put(b)
		if len(one) != cap(one) {
			t.Errorf("%d bytes: room for %d behind", many, cap(one)-len(one))
		}
		kept := slices.Clone(one)
		for i := range b {
			b[i]++
		}
		for i := range other {
			other[i]++
		}
		if !bytes.Equal(one, kept) {
			t.Errorf("%v became %v", kept, one)
		}
		if again := sums.Put(mixed(many)); !bytes.Equal(again, kept) {
			t.Errorf("%v became %v", kept, again)
		}
	}
}

// R5: calls, many at once, change nothing of one another.
func TestManyAtOnce(t *testing.T) {
	done := make(chan bool)
	for worker := range 8 {
		go func() {
			ok := true
			for many := range 100 {
				b := mixed(many * (worker + 1))
				ok = ok && sums.Of(b) == plain(b) && sums.Ends(sums.Put(b))
			}
			done <- ok
		}()
	}
	for range 8 {
		if !<-done {
			t.Error("a sum is another one")
		}
	}
}
