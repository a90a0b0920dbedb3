package udp_test

import (
	"bytes"
	"math"
	"testing"

	"paling/api"
	"paling/udp"
)

// datagram is what a datagram is made of, and what is taken of one.
type datagram struct {
	src, dst int
	body     []byte
}

// plain is a datagram whose bytes are all unlike, so that none may stand in another one's place.
func plain() datagram { return datagram{0x0102, 0x0304, []byte{5, 6, 7}} }

// plainBytes are the bytes of plain.
const plainBytes = "\x01\x02\x03\x04\x00\x0b\x00\x00\x05\x06\x07"

// body is a body of n bytes, of which those beside each other are unlike.
func body(n int) []byte {
	b := make([]byte, n)
	for i := range b {
		b[i] = byte(i*7 + i>>8 + 1)
	}
	return b
}

// lengths are some lengths of bodies, those at the edges among them.
var lengths = []int{0, 1, 2, 3, 7, 8, 9, 14, 22, 247, 248, 249, 503, 504, 505, 1463, 1464, 1471, 1472}

// some are datagrams that may be: with each edge of each part, and with each bit of each number.
func some() []datagram {
	l := []datagram{plain(), {}, {1, 2, []byte("a")}, {0, 65535, []byte{}}, {65535, 0, []byte{0}},
		{65535, 65535, bytes.Repeat([]byte{255}, 1472)}, {49152, 4789, make([]byte, 22)}}
	for i := range 16 {
		l = append(l, datagram{1 << i, 0, body(i)}, datagram{0, 1 << i, nil},
			datagram{65535 - 1<<i, 65535, body(1)}, datagram{65535, 65535 - 1<<i, nil})
	}
	for _, n := range lengths {
		l = append(l, datagram{n * 13, 65535 - n*17, body(n)})
	}
	return l
}

// written are the bytes of d by the chapter's words.
func written(d datagram) []byte {
	n := 8 + len(d.body)
	b := []byte{byte(d.src / 256), byte(d.src % 256), byte(d.dst / 256), byte(d.dst % 256), byte(n / 256), byte(n % 256), 0, 0}
	return append(b, d.body...)
}

// said is what Take answers of bytes by the chapter's words.
func said(b []byte) api.Errno {
	if len(b) < 8 {
		return api.ErrShort
	}
	n := 256*int(b[4]) + int(b[5])
	if n < 8 {
		return api.ErrForm
	}
	if n > len(b) {
		return api.ErrShort
	}
	if b[6] != 0 || b[7] != 0 {
		return api.ErrSum
	}
	return api.OK
}

// changed are bytes with others in the place of those from at on.
func changed(b []byte, at int, with ...byte) []byte {
	out := append([]byte(nil), b...)
	copy(out[at:], with)
	return out
}

// sized are bytes with that size in their header.
func sized(b []byte, n int) []byte { return changed(b, 4, byte(n/256), byte(n%256)) }

// taken asks that b is taken as want.
func taken(t *testing.T, b []byte, want datagram) {
	t.Helper()
	src, dst, got, e := udp.Take(b)
	if e != api.OK || src != want.src || dst != want.dst || string(got) != string(want.body) {
		t.Errorf("Take(%x) = %d, %d, %x, %d", b, src, dst, got, e)
	}
}

// notTaken asks that b is refused, with nothing beside the error.
func notTaken(t *testing.T, b []byte, want api.Errno) {
	t.Helper()
	if src, dst, got, e := udp.Take(b); e != want || src != 0 || dst != 0 || got != nil {
		t.Errorf("Take(%x) = %d, %d, %x, %d, not %d", b[:min(len(b), 40)], src, dst, got, e, want)
	}
}

// isPut asks that d is put as the chapter's words have it.
func isPut(t *testing.T, d datagram) {
	t.Helper()
	if got, e := udp.Put(d.src, d.dst, d.body); e != api.OK || !bytes.Equal(got, written(d)) {
		t.Errorf("Put(%d, %d, %x) = %x, %d", d.src, d.dst, d.body, got, e)
	}
}

// notPut asks that d is refused, with nothing beside the error.
func notPut(t *testing.T, d datagram, want api.Errno) {
	t.Helper()
	if got, e := udp.Put(d.src, d.dst, d.body); e != want || got != nil {
		t.Errorf("Put(%d, %d, and %d bytes) = %x, %d, not %d", d.src, d.dst, len(d.body), got, e, want)
	}
}

// P8.1

func TestTakeTakesEachPart(t *testing.T) {
	taken(t, []byte(plainBytes), plain())
	taken(t, []byte("\x00\x01\x00\x02\x00\x09\x00\x00a"), datagram{1, 2, []byte("a")})
	taken(t, []byte("\x00\x00\x00\x00\x00\x08\x00\x00"), datagram{})
	taken(t, []byte("\xff\xff\xff\xff\x00\x09\x00\x00\xff"), datagram{65535, 65535, []byte{255}})
	taken(t, []byte("\xc0\x00\x12\xb5\x00\x08\x00\x00"), datagram{49152, 4789, nil})
	for _, d := range some() {
		taken(t, written(d), d)
	}
}

func TestTakeOfEachPort(t *testing.T) {
	for n := range 1 << 16 {
		b := changed([]byte(plainBytes), 0, byte(n/256), byte(n%256))
		taken(t, b, datagram{n, 0x0304, []byte{5, 6, 7}})
		b = changed([]byte(plainBytes), 2, byte(n/256), byte(n%256))
		taken(t, b, datagram{0x0102, n, []byte{5, 6, 7}})
	}
}

func TestTakeOfFewBytes(t *testing.T) {
	for _, b := range [][]byte{nil, {}, make([]byte, 0, 100), []byte(plainBytes)[:0]} {
		notTaken(t, b, api.ErrShort)
	}
	whole := written(datagram{1, 2, nil})
	for n := range 8 {
		notTaken(t, whole[:n], api.ErrShort) // what lies behind in their memory is not read
		notTaken(t, make([]byte, n), api.ErrShort)
		notTaken(t, bytes.Repeat([]byte{255}, n), api.ErrShort)
	}
	taken(t, whole[:8], datagram{1, 2, nil})
	taken(t, append(whole, 7), datagram{1, 2, nil})
	one := written(datagram{1, 2, []byte{7}})
	taken(t, one[:9], datagram{1, 2, []byte{7}})
	notTaken(t, one[:8], api.ErrShort)
	notTaken(t, one[:7], api.ErrShort)
}

// Each size that there is: below 8, with what there are, beyond them, and the first ones far above.
func TestTakeOfEachSize(t *testing.T) {
	for _, have := range []int{8, 9, 10, 16, 255, 256, 257, 1479, 1480, 1481, 1519} {
		b := append([]byte{1, 2, 3, 4, 0, 0, 0, 0}, body(have-8)...)
		for n := range 1 << 16 {
			b[4], b[5] = byte(n/256), byte(n%256)
			src, dst, got, e := udp.Take(b)
			switch {
			case n < 8 && e == api.ErrForm, n > have && e == api.ErrShort:
				if src != 0 || dst != 0 || got != nil {
					t.Errorf("Take of %d bytes with the size %d: %d, %d, %x beside an error", have, n, src, dst, got)
				}
			case n >= 8 && n <= have && e == api.OK:
				if src != 0x0102 || dst != 0x0304 || !bytes.Equal(got, b[8:n]) {
					t.Errorf("Take of %d bytes with the size %d: %d, %d, %x", have, n, src, dst, got)
				}
			default:
				t.Errorf("Take of %d bytes with the size %d: %d", have, n, e)
			}
		}
	}
}

// The edges by hand, so that not only a rule says them.
func TestTakeAtTheEdgesOfSizes(t *testing.T) {
	b := []byte(plainBytes) // 11 bytes
	notTaken(t, sized(b, 0), api.ErrForm)
	notTaken(t, sized(b, 7), api.ErrForm)
	taken(t, sized(b, 8), datagram{0x0102, 0x0304, nil})
	taken(t, sized(b, 9), datagram{0x0102, 0x0304, []byte{5}})
	taken(t, sized(b, 10), datagram{0x0102, 0x0304, []byte{5, 6}})
	taken(t, sized(b, 11), plain())
	notTaken(t, sized(b, 12), api.ErrShort)
	notTaken(t, sized(b, 256+11), api.ErrShort) // its lower byte alone would do
	notTaken(t, sized(b, 65535), api.ErrShort)
	notTaken(t, sized(b[:8], 7), api.ErrForm)
	taken(t, sized(b[:8], 8), datagram{0x0102, 0x0304, nil})
	notTaken(t, sized(b[:8], 9), api.ErrShort)
}

// The size alone tells how long a body is that is taken, up to what two bytes hold.
func TestTakeOfGreatSizes(t *testing.T) {
	room := append(make([]byte, 8), body(1<<17)...)
	for _, n := range []int{1480, 1481, 1500, 1518, 32767, 32768, 65534, 65535} {
		copy(room, sized(room[:8], n))
		taken(t, room[:n], datagram{0, 0, room[8:n]})
		taken(t, room, datagram{0, 0, room[8:n]})
		notTaken(t, room[:n-1], api.ErrShort)
	}
}

func TestTakeLeavesOutWhatStandsBehind(t *testing.T) {
	for _, d := range some() {
		for _, n := range []int{1, 2, 4, 46, 1500} {
			taken(t, append(written(d), body(n)...), d)
			taken(t, append(written(d), make([]byte, n)...), d)
		}
	}
}

// Not one bit of the last number may be there, whichever of its two bytes has it.
func TestTakeOfEachLastNumber(t *testing.T) {
	for n := range 1 << 16 {
		b := changed([]byte(plainBytes), 6, byte(n/256), byte(n%256))
		if n == 0 {
			taken(t, b, plain())
		} else if src, dst, got, e := udp.Take(b); e != api.ErrSum || src != 0 || dst != 0 || got != nil {
			t.Errorf("Take with the last number %04x: %d, %d, %x, %d", n, src, dst, got, e)
		}
	}
	notTaken(t, []byte("\x01\x02\x03\x04\x00\x08\x01\x00"), api.ErrSum)
	notTaken(t, []byte("\x01\x02\x03\x04\x00\x08\x00\x01"), api.ErrSum)
	notTaken(t, []byte("\x01\x02\x03\x04\x00\x08\x80\x80behind"), api.ErrSum)
}

// Where several errors apply the first one of the chapter is told: each fault alone, and each set of them.
func TestTakeOfSeveralFaults(t *testing.T) {
	const short, low, high, last = 1, 2, 4, 8
	for faults := range 16 {
		if faults&low != 0 && faults&high != 0 {
			continue // no size is both
		}
		b := []byte(plainBytes)
		if faults&low != 0 {
			b[5] = 7
		}
		if faults&high != 0 {
			b[5] = 12
		}
		if faults&last != 0 {
			b[6] = 1
		}
		want := api.OK
		switch {
		case faults&short != 0:
			want, b = api.ErrShort, b[:7]
		case faults&low != 0:
			want = api.ErrForm
		case faults&high != 0:
			want = api.ErrShort
		case faults&last != 0:
			want = api.ErrSum
		}
		if want == api.OK {
			taken(t, b, plain())
			continue
		}
		notTaken(t, b, want)
	}
}

// Each bit of the header that is turned has an answer by the chapter's words.
func TestTakeOfEachBitOfTheHeader(t *testing.T) {
	for _, d := range some() {
		for i := range 64 {
			for _, more := range []int{0, 1, 1 << 16} {
				if more > 1 && (i < 32 || i >= 48) {
					continue // it plays a part for the size alone
				}
				b := append(written(d), make([]byte, more)...)
				b[i/8] ^= 0x80 >> (i % 8)
				if want := said(b); want != api.OK {
					notTaken(t, b, want)
					continue
				}
				n := 256*int(b[4]) + int(b[5])
				taken(t, b, datagram{256*int(b[0]) + int(b[1]), 256*int(b[2]) + int(b[3]), b[8:n]})
			}
		}
	}
}

// Of bytes of any kind the chapter's words have an answer, and it is that.
func TestTakeOfBytesOfAnyKind(t *testing.T) {
	seed := uint32(1)
	next := func(n int) int {
		seed = seed*1664525 + 1013904223
		return int(seed>>8) % n
	}
	seen := map[api.Errno]int{}
	for range 100000 {
		b := make([]byte, next(24))
		for i := range b {
			b[i] = byte(next(256))
		}
		if len(b) >= 8 && next(8) > 0 {
			b[4], b[5] = 0, byte(next(26))
			if next(3) > 0 {
				b[6], b[7] = 0, 0
			}
		}
		want := said(b)
		seen[want]++
		if want != api.OK {
			notTaken(t, b, want)
			continue
		}
		taken(t, b, datagram{256*int(b[0]) + int(b[1]), 256*int(b[2]) + int(b[3]), b[8:b[5]]})
	}
	for _, e := range []api.Errno{api.OK, api.ErrShort, api.ErrForm, api.ErrSum} {
		if seen[e] < 1000 {
			t.Errorf("%d only %d times", e, seen[e])
		}
	}
}

// P8.2

func TestPutPutsEachPart(t *testing.T) {
	if got, e := udp.Put(0x0102, 0x0304, []byte{5, 6, 7}); e != api.OK || string(got) != plainBytes {
		t.Errorf("Put of unlike bytes: %x, %d", got, e)
	}
	if got, e := udp.Put(1, 2, []byte("a")); e != api.OK || string(got) != "\x00\x01\x00\x02\x00\x09\x00\x00a" {
		t.Errorf("Put of the chapter's example: %x, %d", got, e)
	}
	for _, d := range some() {
		isPut(t, d)
	}
}

func TestPutOfEachPort(t *testing.T) {
	for n := -300; n < 66000; n++ {
		for _, d := range []datagram{{n, 0x0304, []byte{5}}, {0x0102, n, []byte{5}}, {n, n, nil}} {
			if n >= 0 && n <= 65535 {
				isPut(t, d)
			} else {
				notPut(t, d, api.ErrForm)
			}
		}
	}
}

// The edges that the chapter names, each port at each of them.
func TestPutAtTheEdgesOfPorts(t *testing.T) {
	at := []int{-1, 0, 65535, 65536}
	for _, src := range at {
		for _, dst := range at {
			for _, b := range [][]byte{nil, {1}, body(1472)} {
				if min(src, dst) < 0 || max(src, dst) > 65535 {
					notPut(t, datagram{src, dst, b}, api.ErrForm)
				} else {
					isPut(t, datagram{src, dst, b})
				}
			}
		}
	}
}

// Ports far off, some of which have right lowest bits.
func TestPutOfPortsFarOff(t *testing.T) {
	for _, n := range []int{-2, -256, -65535, -65536, -65537, 65537, 131071, 131072, 1 << 20, 1<<31 - 1,
		math.MinInt32, math.MinInt, math.MinInt + 1, math.MinInt + 65535, math.MaxInt - 1, math.MaxInt} {
		for _, other := range []int{0, 1, 4789, 65535, -1, 65536, n} {
			notPut(t, datagram{n, other, []byte{1}}, api.ErrForm)
			notPut(t, datagram{other, n, []byte{1}}, api.ErrForm)
		}
	}
}

func TestPutOfEachLength(t *testing.T) {
	room := body(4000) // what lies behind the body in its memory is not put
	for n := range 1600 {
		d := datagram{0x0102, 0x0304, room[:n]}
		if n <= 1472 {
			isPut(t, d)
		} else {
			notPut(t, d, api.ErrLong)
		}
	}
	for _, n := range []int{4000, 65527, 65528, 65535, 65536, 65536 + 100, 1 << 20} {
		notPut(t, datagram{1, 2, make([]byte, n)}, api.ErrLong)
	}
}

// The edges by hand, so that not only a rule says them.
func TestPutAtTheEdgesOfLengths(t *testing.T) {
	for _, b := range [][]byte{nil, {}, make([]byte, 0, 2000), body(9)[:0]} {
		if got, e := udp.Put(1, 2, b); e != api.OK || string(got) != "\x00\x01\x00\x02\x00\x08\x00\x00" {
			t.Errorf("Put without a body: %x, %d", got, e)
		}
	}
	if got, e := udp.Put(1, 2, body(1472)); e != api.OK || len(got) != 1480 || string(got[:8]) != "\x00\x01\x00\x02\x05\xc8\x00\x00" {
		t.Errorf("Put of the longest body: %d bytes, %d", len(got), e)
	}
	notPut(t, datagram{1, 2, body(1473)}, api.ErrLong)
}

// The form is asked ahead of the length.
func TestPutOfSeveralFaults(t *testing.T) {
	for _, long := range []int{1473, 65536} {
		b := make([]byte, long)
		notPut(t, datagram{0, 65535, b}, api.ErrLong)
		for _, n := range []int{-1, 65536, math.MinInt, math.MaxInt} {
			notPut(t, datagram{n, 1, b}, api.ErrForm)
			notPut(t, datagram{1, n, b}, api.ErrForm)
			notPut(t, datagram{n, n, b}, api.ErrForm)
		}
	}
}

// P8.3

// numbers are numbers of 64 bits: the edges, each bit alone, all but each bit, and some between.
func numbers() []uint64 {
	l := []uint64{0, math.MaxUint64, 0x020000000001, 0xffffffffffff, 0x0123456789abcdef, 16383, 16384, 49152, 65535, 65536}
	for i := range 64 {
		l = append(l, 1<<i, math.MaxUint64-1<<i, 1<<i-1)
	}
	return l
}

// ported is what Port answers by the chapter's words, bit by bit.
func ported(a, b uint64) int {
	n := 49152
	for i := range 14 { // the bits of a remainder by 16384
		if one, other := a>>i%2, b>>i%2; one != other {
			n += 1 << i
		}
	}
	return n
}

func TestPortOfKnownNumbers(t *testing.T) {
	const most = math.MaxUint64
	for _, c := range []struct {
		a, b uint64
		want int
	}{
		{0, 0, 49152}, // alike
		{most, most, 49152},
		{0x020000000001, 0x020000000001, 49152},
		{0, 1, 49153}, // in one bit
		{2, 3, 49153},
		{most, most - 1, 49153},
		{0, 1 << 13, 57344}, // the highest bit of a remainder
		{0, 1 << 14, 49152}, // the first bit above it
		{0, 1 << 63, 49152}, // the highest bit
		{1<<63 | 5, 5, 49152},
		{1<<63 | 5, 4, 49153},
		{0, most, 65535}, // in all
		{0xaaaaaaaaaaaaaaaa, 0x5555555555555555, 65535},
		{16383, 0, 65535}, // a remainder of 16383
		{16384, 0, 49152}, // a remainder of 0
		{32767, 0, 65535},
		{32768, 32768 + 16384, 49152},
		{3, 1, 49154}, // where both are 1 there is none
		{1<<20 | 3, 1, 49154},
		{12, 10, 49158},
		{0xffffffffffff, 0x020000000001, 65534},
		{0x02000000000a, 0x0200000000ff, 49397},
		{0x123456789abc, 0, 49152 + 0x1abc},
	} {
		if got := udp.Port(c.a, c.b); got != c.want {
			t.Errorf("Port(%x, %x) = %d, not %d", c.a, c.b, got, c.want)
		}
	}
}

func TestPortOfEachRemainder(t *testing.T) {
	for n := range uint64(1 << 16) {
		for _, b := range []uint64{0, 1, 0x2aaa, math.MaxUint64, 0xffffffffffff0000} {
			if got, want := udp.Port(n^b, b), 49152+int(n%16384); got != want {
				t.Errorf("Port(%x, %x) = %d, not %d", n^b, b, got, want)
			}
		}
	}
}

// Two numbers that differ in one bit have ports that differ in it, if it is one of the lowest fourteen, and else the same.
func TestPortOfNumbersThatDifferInOneBit(t *testing.T) {
	for _, a := range numbers() {
		for i := range 64 {
			want := 49152
			if i < 14 {
				want += 1 << i
			}
			if got := udp.Port(a, a^1<<i); got != want {
				t.Errorf("Port(%x, %x) = %d, not %d", a, a^1<<i, got, want)
			}
		}
		if same, all := udp.Port(a, a), udp.Port(a, ^a); same != 49152 || all != 65535 {
			t.Errorf("Port of %x and itself: %d; and all bits turned: %d", a, same, all)
		}
	}
}

// P8.3, and P8.4's other half: a port is one that Put takes, and hangs on no order.
func TestPortHangsOnNoOrder(t *testing.T) {
	l := numbers()
	for _, a := range l {
		for _, b := range l {
			n := udp.Port(a, b)
			if n != ported(a, b) || n != udp.Port(b, a) {
				t.Errorf("Port(%x, %x) = %d, the other way round %d, not %d", a, b, n, udp.Port(b, a), ported(a, b))
			}
			if n < 49152 || n > 65535 {
				t.Errorf("Port(%x, %x) = %d", a, b, n)
			}
		}
	}
}

// P8.4

func TestWhatIsPutIsTaken(t *testing.T) {
	for _, d := range some() {
		b, e := udp.Put(d.src, d.dst, d.body)
		if e != api.OK {
			t.Errorf("Put(%d, %d, %x): %d", d.src, d.dst, d.body, e)
			continue
		}
		for _, behind := range [][]byte{nil, {0}, {0xff}, body(26), b, make([]byte, 1500)} {
			whole := append(append([]byte(nil), b...), behind...)
			taken(t, whole, d)
			src, dst, got, _ := udp.Take(whole)
			if again, e := udp.Put(src, dst, got); e != api.OK || !bytes.Equal(again, b) {
				t.Errorf("%x with %x behind, taken and put again: %x, %d", b, behind, again, e)
			}
		}
	}
}

// Of each length, and with each port that Port answers of a few.
func TestWhatIsPutIsTakenOfEachLength(t *testing.T) {
	for n := range 1473 {
		d := datagram{udp.Port(uint64(n), 0x123456789abc), 65535 - n, body(n)}
		b, e := udp.Put(d.src, d.dst, d.body)
		if e != api.OK {
			t.Errorf("Put with %d bytes: %d", n, e)
		}
		taken(t, b, d)
		taken(t, append(b, 1, 2, 3), d)
	}
}

// Memory of its own, and what is handed in

// spoil writes over all of a list's memory, spare room too.
func spoil(b []byte) {
	b = b[:cap(b)]
	for i := range b {
		b[i] ^= 0xff
	}
}

// within is b in the midst of a memory of its own.
func within(b []byte) (inner, room []byte) {
	room = body(len(b) + 40)
	inner = room[20 : 20+len(b)]
	copy(inner, b)
	return inner, room
}

func TestTakeHasItsOwnMemory(t *testing.T) {
	for _, n := range lengths {
		for _, behind := range []int{0, 1, 40} {
			want := datagram{1, 2, body(n)}
			b, room := within(append(written(want), body(behind)...))
			all := string(room)
			_, _, first, _ := udp.Take(b)
			_, _, second, _ := udp.Take(b)
			spoil(first)
			if string(room) != all || !bytes.Equal(second, want.body) {
				t.Errorf("what is written into a body of %d bytes that was taken is seen elsewhere", n)
			}
			spoil(room)
			if !bytes.Equal(second, want.body) {
				t.Errorf("what is written into bytes with a body of %d is seen in what was taken of them", n)
			}
		}
	}
}

func TestPutHasItsOwnMemory(t *testing.T) {
	for _, n := range lengths {
		b, room := within(body(n))
		want, all := string(written(datagram{1, 2, b})), string(room)
		first, _ := udp.Put(1, 2, b)
		second, _ := udp.Put(1, 2, b)
		spoil(first)
		if string(room) != all || string(second) != want {
			t.Errorf("what is written into the bytes of a body of %d is seen elsewhere", n)
		}
		spoil(room)
		if string(second) != want {
			t.Errorf("what is written into a body of %d bytes is seen in its bytes", n)
		}
	}
}

// What lies behind what is handed in is not handed out.
func TestSpareRoomIsNotHandedOut(t *testing.T) {
	for _, n := range lengths {
		room := bytes.Repeat([]byte{0xee}, 4000)
		put, _ := udp.Put(1, 2, room[:n])
		copy(room, put)
		_, _, exact, _ := udp.Take(room[:8+n])
		_, _, more, _ := udp.Take(room)
		if len(exact) != n || len(more) != n {
			t.Errorf("bodies of %d and %d bytes, not %d", len(exact), len(more), n)
		}
		for _, b := range [][]byte{put, exact, more} {
			if bytes.IndexByte(b[len(b):cap(b)], 0xee) >= 0 {
				t.Errorf("%d bytes with what lay behind them", n)
			}
		}
	}
}

// What is refused leaves what it was given as well.
func TestWhatIsHandedInStays(t *testing.T) {
	for _, n := range append(lengths, 1473, 65527) {
		for i := range 65 {
			b, room := within(written(datagram{0x0102, 0x0304, body(n)}))
			if i < 64 {
				b[i/8] ^= 1 << (i % 8)
			}
			all := string(room)
			udp.Take(b)
			udp.Take(b[:min(len(b), i)])
			if string(room) != all {
				t.Errorf("Take wrote to the %d bytes that it was handed, or beside them", len(b))
			}
		}
		b, room := within(body(n))
		all := string(room)
		for _, p := range [][2]int{{1, 2}, {-1, 2}, {1, 65536}, {0, 0}, {65535, 65535}} {
			udp.Put(p[0], p[1], b)
			if string(room) != all {
				t.Errorf("Put wrote to the body of %d bytes that it was handed, or beside it", n)
			}
		}
	}
}

// No call hangs on an earlier one.
func TestNothingIsKept(t *testing.T) {
	for _, d := range some() {
		b, _ := udp.Put(d.src, d.dst, d.body)
		udp.Take(b)
		udp.Take(b[:7])
		udp.Put(-1, 0, d.body)
		isPut(t, plain())
		taken(t, []byte(plainBytes), plain())
		notTaken(t, nil, api.ErrShort)
		notPut(t, datagram{0, 65536, nil}, api.ErrForm)
		udp.Port(uint64(d.src), uint64(d.dst))
		if got := udp.Port(1<<20|3, 1); got != 49154 {
			t.Errorf("Port: %d", got)
		}
	}
}
