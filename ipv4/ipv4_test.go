package ipv4_test

import (
	"bytes"
	"math"
	"reflect"
	"testing"

	"paling/api"
	"paling/ipv4"
	"paling/sum"
)

// packet is a packet whose bytes are all unlike, so that none may stand in another one's place.
func packet() api.Packet {
	return api.Packet{Tos: 1, Id: 0x0203, Ttl: 4, Proto: 5, Src: 0x06070809, Dst: 0x0a0b0c0d, Body: []byte{0x0e, 0x0f, 0x10}}
}

// packetBytes are the bytes of packet.
const packetBytes = "\x45\x01\x00\x17\x02\x03\x00\x00\x04\x05\x90\xb7\x06\x07\x08\x09\x0a\x0b\x0c\x0d\x0e\x0f\x10"

// example is the chapter's packet, which has 95 bytes.
func example() api.Packet {
	return api.Packet{Ttl: 64, Proto: 17, Src: 0xc0a80001, Dst: 0xc0a800c7, Body: make([]byte, 95)}
}

// body is a body of n bytes, of which those beside each other are unlike.
func body(n int) []byte {
	b := make([]byte, n)
	for i := range b {
		b[i] = byte(i*7 + i>>8 + 1)
	}
	return b
}

// some are packets that may be: with each edge of each field, and with each bit of each number.
func some() []api.Packet {
	l := []api.Packet{packet(), example(), {}, {Body: []byte{}}, {Body: []byte{0}},
		{Tos: 255, Id: 65535, Ttl: 255, Proto: 255, Src: math.MaxUint32, Dst: math.MaxUint32, Body: bytes.Repeat([]byte{255}, 1480)}}
	for i := range 32 {
		l = append(l, api.Packet{Src: 1 << i, Ttl: 64}, api.Packet{Dst: 1 << i, Ttl: 64})
	}
	for i := range 16 {
		l = append(l, api.Packet{Id: 1 << i, Body: body(i)}, api.Packet{Id: 65535 - 1<<i, Ttl: i})
	}
	for i := range 8 {
		l = append(l, api.Packet{Tos: 1 << i}, api.Packet{Ttl: 1 << i}, api.Packet{Proto: 1 << i})
	}
	for _, n := range []int{1, 2, 19, 20, 21, 234, 235, 236, 237, 1472, 1479, 1480} {
		l = append(l, api.Packet{Tos: n % 256, Id: n, Ttl: n % 251, Proto: n % 241, Src: uint32(n) << 12, Dst: uint32(n) << 7, Body: body(n)})
	}
	return l
}

// left are the packets of some that a hop leaves, with Ttl from 2 on.
func left() []api.Packet {
	var l []api.Packet
	for _, p := range some() {
		for _, ttl := range []int{2, 3, 64, 128, 254, 255} {
			p.Ttl = ttl
			l = append(l, p)
		}
	}
	return l
}

// total is the sum of bytes, even in number, by the words of chapter 6.
func total(b []byte) int {
	n := 0
	for i := 0; i < len(b); i += 2 {
		n += 256*int(b[i]) + int(b[i+1])
	}
	for n > 65535 {
		n = n/65536 + n%65536
	}
	return n
}

// summed are the bytes with the sum that the header has by the chapter's words.
func summed(b []byte) []byte {
	out := append([]byte(nil), b...)
	out[10], out[11] = 0, 0
	s := 65535 - total(out[:20])
	out[10], out[11] = byte(s/256), byte(s%256)
	return out
}

// written is what the bytes of p are by the chapter's words.
func written(p api.Packet) []byte {
	n := 20 + len(p.Body)
	b := []byte{0x45, byte(p.Tos), byte(n / 256), byte(n % 256), byte(p.Id / 256), byte(p.Id % 256), 0, 0, byte(p.Ttl), byte(p.Proto), 0, 0}
	for _, a := range []uint32{p.Src, p.Dst} {
		b = append(b, byte(a>>24), byte(a>>16), byte(a>>8), byte(a))
	}
	return summed(append(b, p.Body...))
}

// said is what Take answers of bytes by the chapter's words.
func said(b []byte) api.Errno {
	if len(b) < 20 {
		return api.ErrShort
	}
	if b[0] != 0x45 {
		return api.ErrForm
	}
	n := 256*int(b[2]) + int(b[3])
	if n < 20 {
		return api.ErrForm
	}
	if n > len(b) {
		return api.ErrShort
	}
	if b[6] != 0 || b[7] != 0 {
		return api.ErrForm
	}
	if total(b[:20]) != 65535 {
		return api.ErrSum
	}
	return api.OK
}

// changed are bytes with others in the place of those from at on.
func changed(b []byte, at int, with ...byte) []byte {
	out := append([]byte(nil), b...)
	copy(out[at:], with)
	return out
}

// alike tells whether p and q have the same numbers, and the same bytes, without a word of the package.
func alike(p, q api.Packet) bool {
	return string(p.Body) == string(q.Body) && reflect.DeepEqual(bare(p), bare(q))
}

// bare is p without its body.
func bare(p api.Packet) api.Packet {
	p.Body = nil
	return p
}

// none tells whether p is the zero value of a packet.
func none(p api.Packet) bool { return reflect.ValueOf(p).IsZero() }

// taken asks that b is taken as want.
func taken(t *testing.T, b []byte, want api.Packet) {
	t.Helper()
	if got, e := ipv4.Take(b); e != api.OK || !alike(got, want) {
		t.Errorf("Take(%x) = %x, %d", b, got, e)
	}
}

// notTaken asks that b is refused, with nothing beside the error.
func notTaken(t *testing.T, b []byte, want api.Errno) {
	t.Helper()
	if got, e := ipv4.Take(b); e != want || !none(got) {
		t.Errorf("Take(%x) = %x, %d, not %d", b[:min(len(b), 40)], got, e, want)
	}
}

// isPut asks that p is put as the chapter's words have it.
func isPut(t *testing.T, p api.Packet) {
	t.Helper()
	if got, e := ipv4.Put(p); e != api.OK || !bytes.Equal(got, written(p)) {
		t.Errorf("Put(%x) = %x, %d", p, got, e)
	}
}

// notPut asks that p is refused, with nothing beside the error.
func notPut(t *testing.T, p api.Packet, want api.Errno) {
	t.Helper()
	if got, e := ipv4.Put(p); e != want || got != nil {
		t.Errorf("Put(%x) = %x, %d, not %d", bare(p), got, e, want)
	}
}

// P7.1

func TestTakeTakesEachPart(t *testing.T) {
	taken(t, []byte(packetBytes), packet())
	taken(t, []byte("\x45\x00\x00\x14\x00\x00\x00\x00\x00\x00\xba\xeb\x00\x00\x00\x00\x00\x00\x00\x00"), api.Packet{})
	taken(t, []byte("\x45\xff\x00\x15\xff\xff\x00\x00\xff\xff\xb9\xeb\xff\xff\xff\xff\xff\xff\xff\xff\xff"),
		api.Packet{Tos: 255, Id: 65535, Ttl: 255, Proto: 255, Src: math.MaxUint32, Dst: math.MaxUint32, Body: []byte{255}})
	taken(t, append([]byte("\x45\x00\x00\x73\x00\x00\x00\x00\x40\x11\xf8\x61\xc0\xa8\x00\x01\xc0\xa8\x00\xc7"), make([]byte, 95)...), example())
	for _, p := range some() {
		taken(t, written(p), p)
	}
}

// Each byte alone tells which number it goes to, and which bits of it.
func TestTakePutsEachByteInItsPlace(t *testing.T) {
	for at := range 26 {
		b := written(api.Packet{Body: make([]byte, 6)})
		want := api.Packet{Body: make([]byte, 6)}
		switch {
		case at == 1:
			want.Tos = 0x81
		case at == 4 || at == 5:
			want.Id = 0x81 << (8 * (5 - at))
		case at == 8:
			want.Ttl = 0x81
		case at == 9:
			want.Proto = 0x81
		case at >= 12 && at < 16:
			want.Src = 0x81 << (8 * (15 - at))
		case at >= 16 && at < 20:
			want.Dst = 0x81 << (8 * (19 - at))
		case at >= 20:
			want.Body[at-20] = 0x81
		default:
			continue // not a byte of what the packet tells
		}
		b[at] = 0x81
		taken(t, summed(b), want)
	}
}

func TestTakeOfFewBytes(t *testing.T) {
	for _, b := range [][]byte{nil, {}, make([]byte, 0, 100), []byte(packetBytes)[:0]} {
		notTaken(t, b, api.ErrShort)
	}
	whole := written(api.Packet{})
	for n := range 20 {
		notTaken(t, whole[:n], api.ErrShort) // what lies behind in their memory is not read
		notTaken(t, make([]byte, n), api.ErrShort)
		notTaken(t, bytes.Repeat([]byte{255}, n), api.ErrShort)
	}
	taken(t, whole[:20], api.Packet{})
	taken(t, append(whole, 7), api.Packet{})
	one := written(api.Packet{Body: []byte{7}})
	taken(t, one[:21], api.Packet{Body: []byte{7}})
	notTaken(t, one[:20], api.ErrShort)
	notTaken(t, one[:19], api.ErrShort)
}

func TestTakeOfEachFirstByte(t *testing.T) {
	for v := range 256 {
		b := summed(changed([]byte(packetBytes), 0, byte(v)))
		if v == 0x45 {
			taken(t, b, packet())
			continue
		}
		notTaken(t, b, api.ErrForm)
		notTaken(t, append(b, make([]byte, 40)...), api.ErrForm) // with room for a header's options
	}
}

func TestTakeOfEachSize(t *testing.T) {
	for _, have := range []int{20, 21, 22, 40, 255, 256, 257, 300, 1499, 1500, 1501} {
		room := written(api.Packet{Tos: 3, Ttl: 9, Body: body(have)})
		for n := range 1600 {
			room[2], room[3] = byte(n/256), byte(n%256)
			b := summed(room)[:have]
			switch {
			case n < 20:
				notTaken(t, b, api.ErrForm)
			case n > have:
				notTaken(t, b, api.ErrShort)
			default:
				taken(t, b, api.Packet{Tos: 3, Ttl: 9, Body: b[20:n]})
			}
		}
	}
}

// The size alone tells how long a packet is that is taken, up to what two bytes hold.
func TestTakeOfGreatSizes(t *testing.T) {
	room := make([]byte, 1<<17)
	copy(room[20:], body(1<<16))
	room[0] = 0x45
	for _, n := range []int{1500, 1501, 1518, 1519, 32767, 32768, 65534, 65535} {
		room[2], room[3] = byte(n/256), byte(n%256)
		copy(room, summed(room[:20]))
		taken(t, room[:n], api.Packet{Body: room[20:n]})
		taken(t, room, api.Packet{Body: room[20:n]})
		notTaken(t, room[:n-1], api.ErrShort)
	}
}

func TestTakeLeavesOutWhatStandsBehind(t *testing.T) {
	for _, p := range some() {
		for _, n := range []int{1, 2, 4, 46, 1500} {
			taken(t, append(written(p), body(n)...), p)
			taken(t, append(written(p), make([]byte, n)...), p)
		}
	}
}

// Not one bit of the two bytes behind Id may be there, that which allows no fragments neither.
func TestTakeOfEachPairBehindId(t *testing.T) {
	for n := range 1 << 16 {
		b := summed(changed([]byte(packetBytes), 6, byte(n/256), byte(n%256)))
		if n == 0 {
			taken(t, b, packet())
		} else if got, e := ipv4.Take(b); e != api.ErrForm || !none(got) {
			t.Errorf("Take with %04x behind Id: %x, %d", n, got, e)
		}
	}
}

func TestTakeOfEachSum(t *testing.T) {
	for n := range 1 << 16 {
		b := changed([]byte(packetBytes), 10, byte(n/256), byte(n%256))
		got, e := ipv4.Take(b)
		if n == 0x90b7 && (e != api.OK || !alike(got, packet())) || n != 0x90b7 && (e != api.ErrSum || !none(got)) {
			t.Errorf("Take with the sum %04x: %x, %d", n, got, e)
		}
	}
}

func TestTakeOfASumWrongByOneBit(t *testing.T) {
	for _, p := range some() {
		for i := range 16 {
			b := written(p)
			b[10+i/8] ^= 1 << (i % 8)
			notTaken(t, b, api.ErrSum)
		}
	}
}

// The sum is that of the header alone, whatever the body is.
func TestTakeOfTheHeadersSum(t *testing.T) {
	p := packet()
	for at := range p.Body {
		for v := range 256 {
			p.Body[at] = byte(v)
			taken(t, changed([]byte(packetBytes), 20+at, byte(v)), api.Packet{Tos: 1, Id: 0x0203, Ttl: 4, Proto: 5,
				Src: 0x06070809, Dst: 0x0a0b0c0d, Body: p.Body})
		}
		p = packet()
	}
}

// A sum that is left out, that is not turned, whose bytes are swapped, or that is of the body too.
func TestTakeOfOtherSums(t *testing.T) {
	b := []byte(packetBytes)
	s := 65535 - total(append(changed(b, 10, 0, 0), 0))
	for _, wrong := range [][]byte{{0, 0}, {^b[10], ^b[11]}, {b[11], b[10]}, {byte(s / 256), byte(s % 256)}} {
		notTaken(t, changed(b, 10, wrong...), api.ErrSum)
	}
}

// A header whose sum is 0 is right with 65535 as well: chapter 6's Right is so of it.
func TestTakeOfBothSumsOfNought(t *testing.T) {
	p := api.Packet{Id: 0xbaeb}
	b := written(p)
	if b[10] != 0 || b[11] != 0 {
		t.Fatalf("the sum of %x is not 0", b)
	}
	taken(t, b, p)
	taken(t, changed(b, 10, 0xff, 0xff), p)
	notTaken(t, changed(b, 10, 0xff, 0xfe), api.ErrSum)
	notTaken(t, changed(b, 10, 0, 1), api.ErrSum)
}

func TestTakeOfEachBitOfTheHeader(t *testing.T) {
	for _, p := range some() {
		for i := range 160 {
			for _, more := range []int{0, 1, 1 << 16} {
				if more > 1 && (i < 16 || i >= 32) {
					continue // it plays a part for the size alone
				}
				b := append(written(p), make([]byte, more)...)
				b[i/8] ^= 0x80 >> (i % 8)
				want := said(b)
				if want == api.OK {
					t.Fatalf("%x is right with the bit %d turned", b[:20], i)
				}
				notTaken(t, b, want)
			}
		}
	}
}

// Bits by hand, so that not only said says it: of a packet of 23 bytes, and of 100 that there are.
func TestTakeOfSomeBitsOfTheHeader(t *testing.T) {
	for at, want := range map[int][2]api.Errno{
		0:  {api.ErrForm, api.ErrForm},
		1:  {api.ErrSum, api.ErrSum},
		2:  {api.ErrShort, api.ErrShort}, // 279 bytes
		4:  {api.ErrSum, api.ErrSum},
		5:  {api.ErrSum, api.ErrSum},
		6:  {api.ErrForm, api.ErrForm},
		7:  {api.ErrForm, api.ErrForm},
		8:  {api.ErrSum, api.ErrSum},
		9:  {api.ErrSum, api.ErrSum},
		10: {api.ErrSum, api.ErrSum},
		11: {api.ErrSum, api.ErrSum},
		12: {api.ErrSum, api.ErrSum},
		15: {api.ErrSum, api.ErrSum},
		16: {api.ErrSum, api.ErrSum},
		19: {api.ErrSum, api.ErrSum},
	} {
		b := changed([]byte(packetBytes), at, packetBytes[at]^1)
		notTaken(t, b, want[0])
		notTaken(t, append(b, make([]byte, 77)...), want[1])
	}
	for i, want := range [][2]api.Errno{
		{api.ErrSum, api.ErrSum},     // 22 bytes
		{api.ErrSum, api.ErrSum},     // 21
		{api.ErrForm, api.ErrForm},   // 19
		{api.ErrShort, api.ErrSum},   // 31
		{api.ErrForm, api.ErrForm},   // 7
		{api.ErrShort, api.ErrSum},   // 55
		{api.ErrShort, api.ErrSum},   // 87
		{api.ErrShort, api.ErrShort}, // 151
	} {
		b := changed([]byte(packetBytes), 3, 23^1<<i)
		notTaken(t, b, want[0])
		notTaken(t, append(b, make([]byte, 77)...), want[1])
	}
}

// Where several errors apply the first one of the chapter is told: each fault alone, and each set of them.
func TestTakeOfSeveralFaults(t *testing.T) {
	const short, head, low, high, behind, wrong = 1, 2, 4, 8, 16, 32
	for faults := range 64 {
		if faults&low != 0 && faults&high != 0 {
			continue // no size is both
		}
		b := []byte(packetBytes)
		if faults&head != 0 {
			b[0] = 0x46
		}
		if faults&low != 0 {
			b[3] = 19
		}
		if faults&high != 0 {
			b[3] = 24
		}
		if faults&behind != 0 {
			b[6] = 0x40
		}
		b = summed(b)
		if faults&wrong != 0 {
			b[11] ^= 1
		}
		want := api.OK
		switch {
		case faults&short != 0:
			want, b = api.ErrShort, b[:19]
		case faults&(head|low) != 0:
			want = api.ErrForm
		case faults&high != 0:
			want = api.ErrShort
		case faults&behind != 0:
			want = api.ErrForm
		case faults&wrong != 0:
			want = api.ErrSum
		}
		if want == api.OK {
			taken(t, b, packet())
			continue
		}
		notTaken(t, b, want)
	}
}

// Of bytes of any kind the chapter's words have an answer, and it is that.
func TestTakeOfBytesOfAnyKind(t *testing.T) {
	seed := uint32(1)
	next := func(n int) int {
		seed = seed*1664525 + 1013904223
		return int(seed>>8) % n
	}
	seen := map[api.Errno]int{}
	for range 200000 {
		b := make([]byte, next(44))
		for i := range b {
			b[i] = byte(next(256))
		}
		if len(b) >= 20 && next(8) > 0 {
			b[0], b[2], b[3] = 0x45, 0, byte(next(48))
			if next(4) > 0 {
				b[6], b[7] = 0, 0
			}
			if next(3) > 0 {
				b = summed(b)
			}
		}
		want := said(b)
		seen[want]++
		if want != api.OK {
			notTaken(t, b, want)
		} else if got, e := ipv4.Take(b); e != api.OK || !bytes.Equal(written(got), b[:b[3]]) {
			t.Errorf("Take(%x) = %x, %d", b, got, e)
		}
	}
	for _, e := range []api.Errno{api.OK, api.ErrShort, api.ErrForm, api.ErrSum} {
		if seen[e] < 1000 {
			t.Errorf("%d only %d times", e, seen[e])
		}
	}
}

// P7.2

func TestPutPutsEachPart(t *testing.T) {
	if got, e := ipv4.Put(packet()); e != api.OK || string(got) != packetBytes {
		t.Errorf("Put of unlike bytes: %x, %d", got, e)
	}
	for _, p := range some() {
		isPut(t, p)
	}
}

func TestPutOfTheExample(t *testing.T) {
	got, e := ipv4.Put(example())
	if e != api.OK || len(got) != 115 || string(got[:20]) != "\x45\x00\x00\x73\x00\x00\x00\x00\x40\x11\xf8\x61\xc0\xa8\x00\x01\xc0\xa8\x00\xc7" {
		t.Errorf("Put of the chapter's example: %x, %d", got, e)
	}
	if !bytes.Equal(got[20:], make([]byte, 95)) {
		t.Errorf("Put of the chapter's example: its body is %x", got[20:])
	}
}

// A sum that is 0 is put as 0.
func TestPutOfASumOfNought(t *testing.T) {
	for _, p := range []api.Packet{{Id: 0xbaeb}, {Dst: 0xbaeb}, {Id: 0xffff, Dst: 0xbaeb}} {
		got, e := ipv4.Put(p)
		if e != api.OK || got[10] != 0 || got[11] != 0 || !sum.Right(got) {
			t.Errorf("Put(%x) = %x, %d", p, got, e)
		}
	}
}

// Each pair of the header goes into its sum, which is right.
func TestPutOfEachSum(t *testing.T) {
	for n := range 1 << 16 {
		for _, p := range []api.Packet{{Id: n}, {Src: uint32(n) << 16}, {Dst: uint32(n), Ttl: 255}, {Ttl: n / 256, Proto: n % 256, Src: math.MaxUint32}} {
			got, e := ipv4.Put(p)
			if e != api.OK || !bytes.Equal(got, written(p)) || !sum.Right(got[:20]) {
				t.Errorf("Put(%x) = %x, %d", p, got, e)
			}
		}
	}
}

// The fields, each of which some call sets to a number.
var fields = map[string]func(p *api.Packet, n int){
	"Tos":   func(p *api.Packet, n int) { p.Tos = n },
	"Ttl":   func(p *api.Packet, n int) { p.Ttl = n },
	"Proto": func(p *api.Packet, n int) { p.Proto = n },
	"Id":    func(p *api.Packet, n int) { p.Id = n },
}

// most is the greatest number of a field.
func most(field string) int {
	if field == "Id" {
		return 65535
	}
	return 255
}

func TestPutOfEachNumberOfAField(t *testing.T) {
	for field, set := range fields {
		for n := -300; n < 66000; n++ {
			p := packet()
			set(&p, n)
			if n >= 0 && n <= most(field) {
				isPut(t, p)
			} else if got, e := ipv4.Put(p); e != api.ErrForm || got != nil {
				t.Errorf("Put with the %s %d: %x, %d", field, n, got, e)
			}
		}
	}
}

func TestPutOfNumbersFarOff(t *testing.T) {
	for field, set := range fields {
		for _, n := range []int{most(field) + 1, 2*most(field) + 2, -1, -256, -65536, 1 << 20, 1<<32 + 1, math.MinInt32, math.MaxInt32, math.MinInt, math.MinInt + 64, math.MaxInt} {
			for _, p := range []api.Packet{{}, packet(), {Tos: 255, Id: 65535, Ttl: 255, Proto: 255}} {
				set(&p, n)
				notPut(t, p, api.ErrForm)
			}
		}
	}
}

func TestPutOfEachLength(t *testing.T) {
	room := body(4000) // what lies behind the body in its memory is not put
	for n := range 1600 {
		p := packet()
		p.Body = room[:n]
		if n <= 1480 {
			isPut(t, p)
		} else {
			notPut(t, p, api.ErrLong)
		}
	}
	for _, n := range []int{1500, 1514, 1518, 4000, 65515, 65516, 65535, 65536, 65536 + 100, 1 << 20} {
		notPut(t, api.Packet{Body: make([]byte, n)}, api.ErrLong)
	}
}

func TestPutOfNoBody(t *testing.T) {
	for _, b := range [][]byte{nil, {}, make([]byte, 0, 2000), body(9)[:0]} {
		p := api.Packet{Tos: 1, Id: 2, Ttl: 3, Proto: 4, Src: 5, Dst: 6, Body: b}
		got, e := ipv4.Put(p)
		if e != api.OK || string(got) != "\x45\x01\x00\x14\x00\x02\x00\x00\x03\x04\xb7\xd9\x00\x00\x00\x05\x00\x00\x00\x06" {
			t.Errorf("Put without a body: %x, %d", got, e)
		}
	}
}

// The form is asked ahead of the length.
func TestPutOfSeveralFaults(t *testing.T) {
	for field, set := range fields {
		for _, n := range []int{-1, most(field) + 1, math.MinInt, math.MaxInt} {
			for _, long := range []int{1481, 65536} {
				p := api.Packet{Body: make([]byte, long)}
				notPut(t, p, api.ErrLong)
				set(&p, n)
				notPut(t, p, api.ErrForm)
			}
			for _, other := range fields {
				p := packet()
				set(&p, n)
				other(&p, n)
				notPut(t, p, api.ErrForm)
			}
		}
	}
}

// P7.3

func TestHopOfEachTtl(t *testing.T) {
	for ttl := -300; ttl < 600; ttl++ {
		p := packet()
		p.Ttl = ttl
		want := p
		want.Ttl = ttl - 1
		got, e := ipv4.Hop(p)
		if ttl <= 1 && (e != api.ErrTime || !none(got)) || ttl > 1 && (e != api.OK || !alike(got, want)) {
			t.Errorf("Hop of the Ttl %d: %x, %d", ttl, got, e)
		}
	}
	for _, ttl := range []int{math.MinInt, math.MinInt + 1, math.MinInt32, -65536, -1, 0, 1} {
		if got, e := ipv4.Hop(api.Packet{Ttl: ttl, Src: 1, Body: body(9)}); e != api.ErrTime || !none(got) {
			t.Errorf("Hop of the Ttl %d: %x, %d", ttl, got, e)
		}
	}
}

// A hop asks the Ttl alone: a packet that Put refuses is led on too.
func TestHopOfPackets(t *testing.T) {
	l := append(left(),
		api.Packet{Ttl: 2},
		api.Packet{Ttl: 256},
		api.Packet{Ttl: math.MaxInt, Tos: math.MinInt, Id: -1, Proto: math.MaxInt, Src: math.MaxUint32, Body: body(1481)},
		api.Packet{Ttl: 255, Tos: 256, Id: 65536, Proto: -1, Dst: math.MaxUint32, Body: body(1 << 17)},
		api.Packet{Ttl: 2, Body: []byte{}},
		api.Packet{Ttl: 2, Body: body(9)[:0]},
	)
	for _, p := range l {
		want := p
		want.Ttl--
		if got, e := ipv4.Hop(p); e != api.OK || !alike(got, want) {
			t.Errorf("Hop(%x) = %x, %d", bare(p), bare(got), e)
		}
	}
}

// A packet has as many hops as its Ttl less one, and is refused then.
func TestHopAgainAndAgain(t *testing.T) {
	for _, ttl := range []int{1, 2, 64, 255} {
		p := packet()
		p.Ttl = ttl
		for n := 1; n < ttl; n++ {
			q, e := ipv4.Hop(p)
			if e != api.OK {
				t.Fatalf("hop %d of the Ttl %d: %d", n, ttl, e)
			}
			p = q
		}
		want := packet()
		want.Ttl = 1
		if got, e := ipv4.Hop(p); !alike(p, want) || e != api.ErrTime || !none(got) {
			t.Errorf("behind the hops of the Ttl %d: %x, and then %x, %d", ttl, p, got, e)
		}
	}
}

// unlike are packets that are unlike packet in one thing alone.
func unlike() []api.Packet {
	var l []api.Packet
	for i := range 64 {
		for _, change := range []func(p *api.Packet){
			func(p *api.Packet) { p.Tos ^= 1 << i },
			func(p *api.Packet) { p.Id ^= 1 << i },
			func(p *api.Packet) { p.Ttl ^= 1 << i },
			func(p *api.Packet) { p.Proto ^= 1 << i },
			func(p *api.Packet) { p.Src ^= 1 << (i % 32) },
			func(p *api.Packet) { p.Dst ^= 1 << (i % 32) },
		} {
			p := packet()
			change(&p)
			l = append(l, p)
		}
	}
	for at := range packet().Body {
		for i := range 8 {
			p := packet()
			p.Body[at] ^= 1 << i
			l = append(l, p)
		}
	}
	for _, b := range []string{"", "\x0e", "\x0e\x0f", "\x0f\x10", "\x0e\x0f\x10\x00", "\x00\x0e\x0f\x10", "\x0e\x0f\x10\x11", "\x10\x0f\x0e"} {
		p := packet()
		p.Body = []byte(b)
		l = append(l, p)
	}
	return l
}

func TestSameOfAlikes(t *testing.T) {
	for _, p := range append(some(), unlike()...) {
		q := p
		q.Body = append([]byte(nil), p.Body...)
		if !ipv4.Same(p, q) || !ipv4.Same(q, p) || !ipv4.Same(p, p) {
			t.Errorf("%x and the like are not the same", p)
		}
	}
}

func TestSameOfUnlikes(t *testing.T) {
	for _, p := range unlike() {
		if ipv4.Same(p, packet()) || ipv4.Same(packet(), p) {
			t.Errorf("%x and %x are the same", p, packet())
		}
	}
	swapped := packet()
	swapped.Src, swapped.Dst = swapped.Dst, swapped.Src
	if ipv4.Same(swapped, packet()) || ipv4.Same(api.Packet{}, packet()) {
		t.Error("a packet is the same as one with its addresses swapped, or as none")
	}
	swapped = packet()
	swapped.Tos, swapped.Proto = swapped.Proto, swapped.Tos
	if ipv4.Same(swapped, packet()) {
		t.Error("a packet is the same as one with its Tos and Proto swapped")
	}
	l := some()
	for i, p := range l {
		for j, q := range l {
			if got := ipv4.Same(p, q); got != alike(p, q) {
				t.Errorf("Same of packets %d and %d: %v", i, j, got)
			}
		}
	}
}

// A body without a byte is nil, or empty, or has spare room: that is all the same.
func TestSameOfNoBodies(t *testing.T) {
	bodies := [][]byte{nil, {}, make([]byte, 0, 9), body(9)[:0]}
	for _, a := range bodies {
		for _, b := range bodies {
			if !ipv4.Same(api.Packet{Tos: 1, Src: 2, Body: a}, api.Packet{Tos: 1, Src: 2, Body: b}) {
				t.Error("packets without a body are not the same")
			}
		}
		if ipv4.Same(api.Packet{Body: a}, api.Packet{Body: []byte{0}}) {
			t.Error("no body is the same as a byte 0")
		}
	}
	if !ipv4.Same(api.Packet{Body: []byte("abc")[:2]}, api.Packet{Body: []byte("abd")[:2]}) {
		t.Error("what lies behind a body plays a part")
	}
}

// P7.4

func TestWhatIsPutIsTaken(t *testing.T) {
	for _, p := range some() {
		b, e := ipv4.Put(p)
		if e != api.OK {
			t.Errorf("Put(%x): %d", p, e)
			continue
		}
		for _, behind := range [][]byte{nil, {0}, {0xff}, body(26), b, make([]byte, 1500)} {
			got, e := ipv4.Take(append(append([]byte(nil), b...), behind...))
			if e != api.OK || !alike(got, p) || !ipv4.Same(got, p) {
				t.Errorf("Take(Put(%x)) with %x behind = %x, %d", p, behind, got, e)
			}
			if again, e := ipv4.Put(got); e != api.OK || !bytes.Equal(again, b) {
				t.Errorf("Put(Take(Put(%x))) = %x, %d", p, again, e)
			}
		}
	}
}

func TestWhatIsTakenIsPutAsItStood(t *testing.T) {
	for n := 20; n <= 1500; n++ {
		b := body(n + 7)
		b[0], b[2], b[3], b[6], b[7] = 0x45, byte(n/256), byte(n%256), 0, 0
		b = summed(b)
		p, e := ipv4.Take(b)
		if e != api.OK {
			t.Errorf("Take of %d bytes: %d", n, e)
			continue
		}
		if got, e := ipv4.Put(p); e != api.OK || !bytes.Equal(got, b[:n]) {
			t.Errorf("Put(Take(%x)) = %x, %d", b, got, e)
		}
	}
	for _, at := range []int{1, 4, 5, 8, 9, 12, 13, 14, 15, 16, 17, 18, 19, 20, 22} {
		for v := range 256 {
			b := summed(changed([]byte(packetBytes), at, byte(v)))
			p, _ := ipv4.Take(b)
			if got, e := ipv4.Put(p); e != api.OK || !bytes.Equal(got, b) {
				t.Errorf("Put(Take(%x)) = %x, %d", b, got, e)
			}
		}
	}
}

// Packets that are unlike have unlike bytes.
func TestUnlikePacketsHaveUnlikeBytes(t *testing.T) {
	of := map[string]api.Packet{}
	for _, p := range append(some(), unlike()...) {
		b, e := ipv4.Put(p)
		if e != api.OK {
			continue
		}
		if q, ok := of[string(b)]; ok && !ipv4.Same(p, q) {
			t.Errorf("%x and %x have the same bytes", p, q)
		}
		of[string(b)] = p
	}
	if len(of) < 200 {
		t.Errorf("only %d packets were put", len(of))
	}
}

// sumOf is the sum that a packet's bytes have.
func sumOf(t *testing.T, p api.Packet) int {
	t.Helper()
	b, e := ipv4.Put(p)
	if e != api.OK {
		t.Fatalf("Put(%x): %d", p, e)
	}
	return 256*int(b[10]) + int(b[11])
}

func TestTheSumBehindAHop(t *testing.T) {
	for _, p := range left() {
		q, e := ipv4.Hop(p)
		if e != api.OK {
			t.Errorf("Hop(%x): %d", p, e)
		}
		want := sum.Turn(sumOf(t, p), 256*p.Ttl+p.Proto, 256*q.Ttl+q.Proto)
		if got := sumOf(t, q); got != want {
			t.Errorf("the sum behind a hop of %x: %d, not %d", p, got, want)
		}
	}
}

// Each sum that a header can have, 0 and those by which it goes over 65535 too.
func TestTheSumBehindAHopFromEachSum(t *testing.T) {
	for n := range 1 << 16 {
		for _, ttl := range []int{2, 64, 255} {
			p := api.Packet{Id: n, Ttl: ttl, Proto: 17}
			q, _ := ipv4.Hop(p)
			want := sum.Turn(sumOf(t, p), 256*ttl+17, 256*(ttl-1)+17)
			if got := sumOf(t, q); got != want {
				t.Errorf("the sum behind a hop of %x: %d, not %d", p, got, want)
			}
		}
	}
}

// Of the bytes of a packet that is led on but the Ttl and the sum are others.
func TestTheBytesBehindAHop(t *testing.T) {
	for _, p := range left() {
		q, _ := ipv4.Hop(p)
		was, _ := ipv4.Put(p)
		now, e := ipv4.Put(q)
		want := changed(was, 8, was[8]-1)
		copy(want[10:12], now[10:12])
		if e != api.OK || !bytes.Equal(now, want) || !sum.Right(now[:20]) {
			t.Errorf("%x behind a hop is %x, %d", was, now, e)
		}
	}
}

// Memory of its own, and what is handed in

// spoil writes over all of a list's memory, spare room too.
func spoil(b []byte) {
	b = b[:cap(b)]
	for i := range b {
		b[i] ^= 0xff
	}
}

// within is b in the midst of a memory of its own.
func within(b []byte) (inner, room []byte) {
	room = body(len(b) + 40)
	inner = room[20 : 20+len(b)]
	copy(inner, b)
	return inner, room
}

var lengths = []int{0, 1, 2, 3, 11, 12, 13, 28, 31, 32, 33, 1472, 1479, 1480}

func TestTakeHasItsOwnMemory(t *testing.T) {
	for _, n := range lengths {
		for _, behind := range []int{0, 1, 40} {
			want := api.Packet{Tos: 1, Ttl: 9, Src: 3, Body: body(n)}
			b, room := within(append(written(want), body(behind)...))
			all := string(room)
			first, _ := ipv4.Take(b)
			second, _ := ipv4.Take(b)
			spoil(first.Body)
			if string(room) != all || !alike(second, want) {
				t.Errorf("what is written into a body of %d bytes that was taken is seen elsewhere", n)
			}
			spoil(room)
			if !alike(second, want) {
				t.Errorf("what is written into bytes with a body of %d is seen in the packet of them", n)
			}
		}
	}
}

func TestPutHasItsOwnMemory(t *testing.T) {
	for _, n := range lengths {
		b, room := within(body(n))
		p := api.Packet{Tos: 1, Ttl: 9, Src: 3, Body: b}
		want, all := string(written(p)), string(room)
		first, _ := ipv4.Put(p)
		second, _ := ipv4.Put(p)
		spoil(first)
		if string(room) != all || string(second) != want {
			t.Errorf("what is written into the bytes of a body of %d is seen elsewhere", n)
		}
		spoil(room)
		if string(second) != want {
			t.Errorf("what is written into a body of %d bytes is seen in its bytes", n)
		}
	}
}

func TestHopHasItsOwnMemory(t *testing.T) {
	for _, n := range lengths {
		b, room := within(body(n))
		p := api.Packet{Tos: 1, Ttl: 9, Src: 3, Body: b}
		want, all := api.Packet{Tos: 1, Ttl: 8, Src: 3, Body: body(n)}, string(room)
		first, _ := ipv4.Hop(p)
		second, _ := ipv4.Hop(p)
		spoil(first.Body)
		if string(room) != all || !alike(second, want) || p.Ttl != 9 {
			t.Errorf("what is written into a body of %d bytes behind a hop is seen elsewhere", n)
		}
		spoil(room)
		if !alike(second, want) {
			t.Errorf("what is written into a body of %d bytes is seen behind the hop", n)
		}
	}
}

// What lies behind what is handed in is not handed out.
func TestSpareRoomIsNotHandedOut(t *testing.T) {
	for _, n := range lengths {
		room := bytes.Repeat([]byte{0xee}, 4000)
		put, _ := ipv4.Put(api.Packet{Body: room[:n]})
		hopped, _ := ipv4.Hop(api.Packet{Ttl: 9, Body: room[:n]})
		copy(room, put)
		exact, _ := ipv4.Take(room[:20+n])
		more, _ := ipv4.Take(room)
		if len(exact.Body) != n || len(more.Body) != n {
			t.Errorf("bodies of %d and %d bytes, not %d", len(exact.Body), len(more.Body), n)
		}
		for _, b := range [][]byte{put, hopped.Body, exact.Body, more.Body} {
			if bytes.IndexByte(b[len(b):cap(b)], 0xee) >= 0 {
				t.Errorf("%d bytes with what lay behind them", n)
			}
		}
	}
}

// What is refused leaves what it was given as well.
func TestWhatIsHandedInStays(t *testing.T) {
	for _, n := range []int{0, 1, 3, 100, 1480, 1481, 65515} {
		for i := range 162 {
			b, room := within(written(api.Packet{Ttl: 9, Src: 3, Body: body(n)}))
			if i < 160 {
				b[i/8] ^= 1 << (i % 8)
			}
			all := string(room)
			ipv4.Take(b)
			ipv4.Take(b[:min(len(b), i)])
			if string(room) != all {
				t.Errorf("Take wrote to the %d bytes that it was handed", len(b))
			}
		}
		b, room := within(body(n))
		all := string(room)
		for _, p := range []api.Packet{{Ttl: 9}, {Ttl: 1}, {Ttl: 256}, {Tos: -1, Ttl: 2}, {Id: 65536}} {
			p.Body = b
			was := p
			ipv4.Put(p)
			ipv4.Hop(p)
			ipv4.Same(p, p)
			if string(room) != all || !alike(p, was) {
				t.Errorf("a call wrote to the body of %d bytes that it was handed", n)
			}
		}
	}
}

// No call hangs on an earlier one.
func TestNothingIsKept(t *testing.T) {
	for _, p := range some() {
		b, _ := ipv4.Put(p)
		ipv4.Take(b)
		ipv4.Take(b[:19])
		ipv4.Hop(p)
		ipv4.Put(api.Packet{Tos: -1})
		isPut(t, packet())
		taken(t, []byte(packetBytes), packet())
		notTaken(t, nil, api.ErrShort)
		if _, e := ipv4.Hop(api.Packet{Ttl: 1}); e != api.ErrTime {
			t.Errorf("Hop of the Ttl 1: %d", e)
		}
	}
}
