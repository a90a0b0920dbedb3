package sum_test

import (
	"bytes"
	"math"
	"testing"

	"paling/sum"
)

// brought is a sum of numbers brought down by the chapter's words.
func brought(total uint64) int {
	for total > 65535 {
		total = total/65536 + total%65536
	}
	return int(total)
}

// summed is the sum of bytes by the chapter's words: of all numbers together first.
func summed(b []byte) int {
	total := uint64(0)
	for i, x := range b {
		if i%2 == 0 {
			total += 256 * uint64(x)
		} else {
			total += uint64(x)
		}
	}
	return brought(total)
}

// turned is what Turn answers by the chapter's words, of numbers that may be.
func turned(s, old, young int) int {
	return 65535 - brought(uint64(65535-s)+uint64(65535-old)+uint64(young))
}

// two are the two bytes of a number.
func two(n int) []byte { return []byte{byte(n / 256), byte(n % 256)} }

// many are numbers as bytes.
func many(numbers ...int) []byte {
	var b []byte
	for _, n := range numbers {
		b = append(b, two(n)...)
	}
	return b
}

// body are n bytes, of which those beside each other are unlike.
func body(n int) []byte {
	b := make([]byte, n)
	for i := range b {
		b[i] = byte(i*7 + i>>8 + 1)
	}
	return b
}

// all are n bytes that are all alike.
func all(n int, x byte) []byte { return bytes.Repeat([]byte{x}, n) }

// some are bytes of each kind that the chapter has: none, one, an even and an odd number of them, with small sums and great ones.
func some() [][]byte {
	l := [][]byte{nil, {}, make([]byte, 0, 9), {0}, {1}, {255}, {1, 2, 3}, {0xff, 0xff, 0xff}, {0, 0, 1}}
	for n := range 70 {
		l = append(l, body(n), all(n, 0), all(n, 1), all(n, 128), all(n, 255))
	}
	for _, n := range []int{1480, 1499, 1500, 1501, 4095, 4096, 4097} {
		l = append(l, body(n), all(n, 0), all(n, 255))
	}
	return append(l, []byte{0x45, 0, 0, 0x73, 0, 0, 0x40, 0, 0x40, 0x11, 0, 0, 0xc0, 0xa8, 0, 1, 0xc0, 0xa8, 0, 0xc7})
}

// checkOf asks what Of and Right answer of bytes whose sum is known.
func checkOf(t *testing.T, b []byte, s int) {
	t.Helper()
	short := b[:min(len(b), 40)]
	if n := sum.Of(b); n != 65535-s {
		t.Errorf("Of of %d bytes, %x ..: %d, not %d", len(b), short, n, 65535-s)
	}
	if right := sum.Right(b); right != (s == 65535) {
		t.Errorf("Right of %d bytes, %x .., whose sum is %d: %v", len(b), short, s, right)
	}
}

// P6.1

func TestOfTheExample(t *testing.T) {
	checkOf(t, []byte{1, 2, 3}, 1026)
	if n := sum.Of([]byte{1, 2, 3}); n != 64509 || !bytes.Equal(two(n), []byte{0xfb, 0xfd}) {
		t.Errorf("Of of 01 02 03: %d", n)
	}
}

func TestOfNoByte(t *testing.T) {
	checkOf(t, nil, 0)
	checkOf(t, []byte{}, 0)
	checkOf(t, body(9)[:0], 0)
}

func TestOfEachOneByte(t *testing.T) {
	for x := range 256 {
		checkOf(t, []byte{byte(x)}, 256*x)
	}
}

func TestOfEachTwoBytes(t *testing.T) {
	for n := range 1 << 16 {
		checkOf(t, two(n), n)
	}
}

// The last byte of an odd number of them is the higher one, whatever lies behind it in their memory.
func TestOfAnOddByteAtTheEnd(t *testing.T) {
	for _, b := range some() {
		for _, x := range []byte{0, 1, 127, 128, 255} {
			room := append(append([]byte(nil), b...), x, 0xa5, 0x5a)
			checkOf(t, room[:len(b)+1], summed(room[:len(b)+1]))
			if len(b)%2 == 1 {
				continue
			}
			odd, even := sum.Of(room[:len(b)+1]), sum.Of(append(append([]byte(nil), b...), x, 0))
			if odd != even {
				t.Errorf("%x, and with a 0 behind it: %d, %d", room[:len(b)+1], odd, even)
			}
		}
	}
	checkOf(t, []byte{0, 0, 1}, 256)
	checkOf(t, []byte{0xff, 0xff, 0xff}, 0xff00)
	checkOf(t, []byte{0xff, 0xff, 0}, 65535)
	checkOf(t, []byte{1, 0, 0xff}, 1)
}

// Each bit of each byte alone tells what it counts.
func TestOfEachBit(t *testing.T) {
	for _, n := range []int{1, 2, 3, 4, 5, 20, 21, 1500} {
		for at := range n {
			for i := range 8 {
				b := make([]byte, n)
				b[at] = 1 << i
				s := 1 << i
				if at%2 == 0 {
					s = 256 << i
				}
				checkOf(t, b, s)
			}
		}
	}
}

// Bytes that are all 0 have the sum 0, and bytes that are all 255 have 65535, if they are even in number: neither is ever the other one.
func TestOfBytesAllAlike(t *testing.T) {
	for n := range 600 {
		checkOf(t, all(n, 0), 0)
		switch {
		case n == 0:
			checkOf(t, all(n, 255), 0)
		case n%2 == 0:
			checkOf(t, all(n, 255), 65535)
		default:
			checkOf(t, all(n, 255), 0xff00)
		}
	}
}

// Sums as they are before they are brought down, and how often they are.
func TestOfSumsThatAreBroughtDown(t *testing.T) {
	for _, c := range []struct {
		b []byte
		s int
	}{
		{many(65535), 65535}, // not at all
		{many(65534, 1), 65535},
		{many(0x8000, 0x7fff), 65535},
		{many(65535, 0, 0), 65535},
		{many(65535, 1), 1}, // 65536, once
		{many(0x8000, 0x8000), 1},
		{many(32768, 32767, 1), 1},
		{many(65535, 2), 2},         // 65537
		{many(65535, 65535), 65535}, // 131070, once
		{many(65535, 65535, 1), 1},  // 131071, which is 65536, twice
		{many(65535, 65534, 2), 1},
		{many(1, 65535, 65535), 1},
		{many(65535, 65535, 2), 2}, // 131072, once
		{many(65535, 65535, 65535), 65535},
		{many(65535, 65535, 65535, 1), 1}, // twice
		{many(0xf000, 0xf000, 0xf000), 0xd002},
		{append(many(65535), 0xff), 0xff00},
		{append(many(65535, 0xff), 1), 0x01ff},
		{append(many(65535, 0xff), 0xff), 0xffff},
		{append(many(0xff, 1), 0xff), 1},         // 65536 by an odd byte
		{append(many(0xffff, 0xff, 1), 0xff), 1}, // 131071 by an odd byte
	} {
		checkOf(t, c.b, c.s)
	}
}

// A sum beyond 32 bits, which is 131071 when it has been brought down once, and 65536 when it has been twice.
func TestOfASumThatIsBroughtDownThrice(t *testing.T) {
	b := append(all(2*65538, 255), 0, 1)
	if total := uint64(65538)*65535 + 1; total/65536+total%65536 != 131071 {
		t.Fatalf("the sum is %d", total)
	}
	checkOf(t, b, 1)
	checkOf(t, b[:len(b)-1], 65535)
	checkOf(t, b[:len(b)-2], 65535)
	checkOf(t, b[1:], summed(b[1:]))
}

// Sums far above: at each step of their length, up to some beyond 31 and 32 bits.
func TestOfGreatSums(t *testing.T) {
	for _, n := range []int{65534, 65535, 65536, 65537, 65540, 131070, 131071, 131072, 131073, 131074, 131080, 1 << 20, 1<<20 + 1} {
		checkOf(t, all(n, 255), 65535-255*(n%2))
		checkOf(t, body(n), summed(body(n)))
		checkOf(t, all(n, 128), summed(all(n, 128)))
	}
}

func TestOfEachLength(t *testing.T) {
	room := body(3000) // what lies behind the bytes in their memory is not read
	for n := range room {
		checkOf(t, room[:n], summed(room[:n]))
		checkOf(t, room[n:], summed(room[n:]))
	}
	for _, b := range some() {
		checkOf(t, b, summed(b))
	}
}

// The order of pairs plays no part; that of a pair's two bytes does.
func TestOfPairsInAnotherOrder(t *testing.T) {
	if a, b := sum.Of(many(1, 515, 65000, 7)), sum.Of(many(7, 65000, 515, 1)); a != b {
		t.Errorf("the pairs in another order: %d, %d", a, b)
	}
	if a, b := sum.Of([]byte{1, 2}), sum.Of([]byte{2, 1}); a != 65535-258 || b != 65535-513 {
		t.Errorf("the bytes of a pair in another order: %d, %d", a, b)
	}
}

func TestRight(t *testing.T) {
	header := []byte{0x45, 0, 0, 0x73, 0, 0, 0x40, 0, 0x40, 0x11, 0xb8, 0x61, 0xc0, 0xa8, 0, 1, 0xc0, 0xa8, 0, 0xc7}
	for _, b := range [][]byte{header, many(65535), many(65534, 1), many(65535, 65535), many(0, 65535, 0), {0xff, 0xff, 0}, {0, 0xff, 0xff}, {0, 0xff, 0xfe, 0, 1}} {
		if !sum.Right(b) {
			t.Errorf("Right of %x is not so", b)
		}
	}
	for _, b := range [][]byte{nil, {}, {0}, {255}, {0, 0}, header[:18], header[:19], header[1:], many(65534), many(65535, 1), many(65535, 65535, 1), {0xff, 0xff, 0xff}, {0xff, 0xfe, 1}, {0, 0xff, 0xfe}} {
		if sum.Right(b) {
			t.Errorf("Right of %x", b)
		}
	}
}

// P6.2

// edges are numbers from 0 to 65535: the first ones, the last ones, those about each power of two, and some between.
func edges() []int {
	l := []int{0, 65535, 0x2da5, 0xb861, 0x4011, 40000}
	for i := range 16 {
		l = append(l, 1<<i, 1<<i-1, 65535-1<<i)
	}
	return l
}

// checkTurn asks what Turn answers of numbers that may be.
func checkTurn(t *testing.T, s, old, young int) {
	t.Helper()
	if n := sum.Turn(s, old, young); n != turned(s, old, young) {
		t.Errorf("Turn(%d, %d, %d) = %d, not %d", s, old, young, n, turned(s, old, young))
	}
}

func TestTurnOfKnownNumbers(t *testing.T) {
	for _, c := range [][4]int{
		{0xb861, 0x4011, 0x3f11, 0xb961},
		{64509, 0x0102, 0x0102, 64509},
		{64509, 0x0102, 0x0103, 64508},
		{65535, 65535, 0, 65535}, // 0 is not brought down
		{65535, 65535, 1, 65534},
		{65535, 65535, 65535, 0}, // 65535 is not either
		{65535, 0, 0, 0},
		{0, 65535, 0, 0},
		{65534, 65535, 65535, 65534}, // 65536, once
		{65535, 65534, 65535, 65534},
		{65535, 0, 1, 65534},
		{0, 65535, 1, 65534},
		{65535, 0, 2, 65533},
		{0, 0, 0, 0},     // 131070, once
		{0, 0, 1, 65534}, // 131071, which is 65536, twice
		{1, 0, 2, 65534},
		{0, 1, 2, 65534},
		{0, 0, 2, 65533}, // 131072, once
		{0, 0, 65535, 0}, // 196605
		{0, 0, 65534, 1},
		{65535, 65535, 7, 65528},
	} {
		if n := sum.Turn(c[0], c[1], c[2]); n != c[3] {
			t.Errorf("Turn(%d, %d, %d) = %d, not %d", c[0], c[1], c[2], n, c[3])
		}
	}
}

// Each number goes through all that it may be, while the other two go through a few.
func TestTurnOfEachNumber(t *testing.T) {
	few := []int{0, 1, 256, 32768, 65534, 65535}
	for n := range 1 << 16 {
		for _, a := range few {
			for _, b := range few {
				checkTurn(t, n, a, b)
				checkTurn(t, a, n, b)
				checkTurn(t, a, b, n)
			}
		}
	}
}

func TestTurnOfEdges(t *testing.T) {
	l := edges()
	for _, s := range l {
		for _, old := range l {
			for _, young := range l {
				checkTurn(t, s, old, young)
			}
		}
	}
}

// far are numbers that may not be, some of which have right lowest bits.
var far = []int{-1, 65536, -2, -65535, -65536, -65537, 65537, 131071, 1 << 20, math.MinInt32, math.MaxInt32,
	math.MinInt, math.MinInt + 1, math.MinInt + 65535, math.MaxInt - 1, math.MaxInt}

// One that may not be is enough, whichever it is and whatever the others are.
func TestTurnOfNumbersThatMayNotBe(t *testing.T) {
	refused := func(s, old, young int) {
		if n := sum.Turn(s, old, young); n != -1 {
			t.Errorf("Turn(%d, %d, %d) = %d, not -1", s, old, young, n)
		}
	}
	right := []int{0, 1, 32768, 65534, 65535}
	for _, n := range far {
		for _, a := range right {
			for _, b := range right {
				refused(n, a, b)
				refused(a, n, b)
				refused(a, b, n)
			}
		}
		for _, m := range far {
			for _, a := range right {
				refused(n, m, a)
				refused(n, a, m)
				refused(a, n, m)
			}
			for _, o := range far {
				refused(n, m, o)
			}
		}
	}
}

// The edges that the chapter names, each number at each of them.
func TestTurnAtItsEdges(t *testing.T) {
	at := []int{-1, 0, 65535, 65536}
	for _, s := range at {
		for _, old := range at {
			for _, young := range at {
				if min(s, old, young) < 0 || max(s, old, young) > 65535 {
					if n := sum.Turn(s, old, young); n != -1 {
						t.Errorf("Turn(%d, %d, %d) = %d, not -1", s, old, young, n)
					}
				} else {
					checkTurn(t, s, old, young)
				}
			}
		}
	}
}

// P6.3

// behind are bytes with their Of behind them.
func behind(b []byte) []byte {
	return append(append([]byte(nil), b...), two(sum.Of(b))...)
}

func TestBytesWithTheirOfBehindThem(t *testing.T) {
	for _, b := range some() {
		if len(b)%2 == 0 && !sum.Right(behind(b)) {
			t.Errorf("%x with its Of behind it is not right", b)
		}
	}
	for n := range 1 << 16 {
		if b := behind(two(n)); !sum.Right(b) {
			t.Errorf("%x is not right", b)
		}
	}
	for n := 0; n <= 3000; n += 2 {
		b := behind(body(n))
		if !sum.Right(b) || sum.Of(b) != 0 {
			t.Errorf("%d bytes with their Of behind them are not right", n)
		}
	}
}

// The bytes may have their Of at any even place, with 0 there before.
func TestBytesWithTheirOfAmongThem(t *testing.T) {
	for at := 0; at < 20; at += 2 {
		b := body(20)
		b[at], b[at+1] = 0, 0
		copy(b[at:], two(sum.Of(b)))
		if !sum.Right(b) {
			t.Errorf("%x with its Of at %d is not right", b, at)
		}
	}
}

func TestOneBitTurnedIsNotRight(t *testing.T) {
	for _, b := range some() {
		if len(b)%2 == 1 || len(b) > 1500 {
			continue
		}
		full := behind(b)
		for i := range 8 * len(full) {
			full[i/8] ^= 1 << (i % 8)
			if sum.Right(full) {
				t.Errorf("%x is right with the bit %d turned", full, i)
			}
			full[i/8] ^= 1 << (i % 8)
		}
	}
}

// checkPairs asks, of each even place with two bytes and of each number, that Of behind the change is Turn of what it was.
func checkPairs(t *testing.T, b []byte, numbers []int) {
	t.Helper()
	was := sum.Of(b)
	for at := 0; at+1 < len(b); at += 2 {
		old := int(b[at])*256 + int(b[at+1])
		for _, young := range numbers {
			c := append([]byte(nil), b...)
			copy(c[at:], two(young))
			want := sum.Of(c)
			if bytes.Count(c, []byte{0}) == len(c) {
				want = 0 // what Turn answers there, while Of of bytes that are all 0 is 65535
			}
			if n := sum.Turn(was, old, young); n != want {
				t.Errorf("%d at %d of %x: Turn is %d, Of %d", young, at, b[:min(len(b), 40)], n, sum.Of(c))
			}
		}
	}
}

func TestTurnOfAPairThatIsReplaced(t *testing.T) {
	numbers := edges()
	for _, b := range some() {
		if len(b) <= 70 {
			checkPairs(t, b, numbers)
		}
	}
	for _, b := range [][]byte{body(1500), body(1501), all(1500, 255), all(1500, 0)} {
		checkPairs(t, b, []int{0, 1, 255, 256, 65534, 65535})
	}
}

func TestTurnOfEachYoungNumber(t *testing.T) {
	each := make([]int, 1<<16)
	for i := range each {
		each[i] = i
	}
	for _, b := range [][]byte{{0, 0}, {0, 1}, {255, 255}, {1, 2, 3}, all(4, 0), all(5, 255), many(65535, 0, 1)} {
		checkPairs(t, b, each)
	}
}

// Where all bytes were 0 Of was 65535, and is what is left of 65535 without the young number.
func TestTurnOfBytesThatWereAllZero(t *testing.T) {
	for _, n := range []int{2, 3, 20, 21, 1500} {
		for at := 0; at+1 < n; at += 2 {
			for _, young := range []int{1, 255, 256, 4660, 32768, 65534, 65535} {
				b := make([]byte, n)
				was := sum.Of(b)
				copy(b[at:], two(young))
				if now := sum.Of(b); was != 65535 || now != 65535-young || sum.Turn(was, 0, young) != now {
					t.Errorf("%d at %d of %d bytes of 0: from %d to %d, Turn %d", young, at, n, was, now, sum.Turn(was, 0, young))
				}
			}
		}
	}
}

// The header of a packet that is led on: its time to live is one less, its sum is that of Turn, and it is right again.
func TestTurnOfAHeaderAgainAndAgain(t *testing.T) {
	b := []byte{0x45, 0, 0, 0x73, 0, 0, 0x40, 0, 0xff, 0x11, 0, 0, 0xc0, 0xa8, 0, 1, 0xc0, 0xa8, 0, 0xc7}
	s := sum.Of(b)
	for ttl := 255; ttl >= 0; ttl-- {
		copy(b[10:], two(s))
		if !sum.Right(b) {
			t.Errorf("%x is not right", b)
		}
		s = sum.Turn(s, ttl*256+0x11, (ttl-1)&0xff*256+0x11)
		b[8]--
	}
}

// What is handed in, and what is kept

func TestWhatIsHandedInStays(t *testing.T) {
	for n := range 200 {
		room := body(n + 40)
		b, was := room[20:20+n], string(room)
		of, right := sum.Of(b), sum.Right(b)
		if string(room) != was {
			t.Fatalf("a call wrote to the %d bytes that it was handed, or beside them", n)
		}
		for i := range room {
			if i < 20 || i >= 20+n {
				room[i] ^= 0xff
			}
		}
		if sum.Of(b) != of || sum.Right(b) != right {
			t.Errorf("what lies beside %d bytes plays a part", n)
		}
	}
}

// No call hangs on an earlier one.
func TestNothingIsKept(t *testing.T) {
	l := some()
	for _, a := range l {
		for _, b := range [][]byte{{}, {1, 2, 3}, {0xff, 0xff}, {0, 0}} {
			sum.Of(a)
			sum.Right(a)
			sum.Turn(1, 2, 65535)
			sum.Turn(-1, 0, 0)
			checkOf(t, b, summed(b))
			checkTurn(t, 0xb861, 0x4011, 0x3f11)
		}
	}
}

// Nor on what is called beside it.
func TestCallsBesideEachOther(t *testing.T) {
	done := make(chan bool)
	for k := range 8 {
		go func() {
			defer func() { done <- true }()
			b := body(100 + k)
			want, turn := 65535-summed(b), turned(k, 2*k, 65535-k)
			for range 2000 {
				if n, m := sum.Of(b), sum.Turn(k, 2*k, 65535-k); n != want || m != turn {
					t.Errorf("%d and %d, not %d and %d", n, m, want, turn)
					return
				}
			}
		}()
	}
	for range 8 {
		<-done
	}
}
