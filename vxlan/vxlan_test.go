package vxlan_test

import (
	"bytes"
	"math"
	"testing"

	"paling/api"
	"paling/vxlan"
)

const mostVni = 16777215

// carried is what is wrapped, and what is unwrapped.
type carried struct {
	from, to uint32
	vni      int
	frame    api.Frame
}

// frame is a frame whose bytes are all unlike, so that none may stand in another one's place.
func frame() api.Frame {
	return api.Frame{Dst: 0xa1a2a3a4a5a6, Src: 0xb1b2b3b4b5b6, Type: 0xc1c2, Body: []byte{0xd1, 0xd2, 0xd3}}
}

// plain is a frame on its way from 1.2.3.4 to 5.6.7.8.
func plain() carried { return carried{0x01020304, 0x05060708, 0x0a0b0c, frame()} }

// plainBytes are the bytes of plain: the frame around it, the packet's header, the datagram's, the head, and frame. The port is 49152 and the remainder by 16384 of a1..a6 and b1..b6, which differ in 101010101010 (hexadecimal).
const plainBytes = "\x02\x00\x05\x06\x07\x08\x02\x00\x01\x02\x03\x04\x08\x00" +
	"\x45\x00\x00\x35\x00\x00\x00\x00\x40\x11\x6a\xa5\x01\x02\x03\x04\x05\x06\x07\x08" +
	"\xd0\x10\x12\xb5\x00\x21\x00\x00" +
	"\x08\x00\x00\x00\x0a\x0b\x0c\x00" +
	"\xa1\xa2\xa3\xa4\xa5\xa6\xb1\xb2\xb3\xb4\xb5\xb6\xc1\xc2\xd1\xd2\xd3"

// Where the parts of what is wrapped begin.
const (
	ipAt    = 14
	udpAt   = 34
	headAt  = 42
	innerAt = 50
)

// body is a body of n bytes, of which those beside each other are unlike.
func body(n int) []byte {
	b := make([]byte, n)
	for i := range b {
		b[i] = byte(i*7 + i>>8 + 1)
	}
	return b
}

// vnis are numbers that may be: the edges, and each bit alone and left out.
func vnis() []int {
	l := []int{1, 2, 255, 256, 257, 5010, 65535, 65536, 65537, 0x0a0b0c, 0x123456, mostVni - 1, mostVni}
	for i := range 24 {
		l = append(l, 1<<i, mostVni-1<<i)
	}
	return l
}

// wrongVnis are numbers that may not be, some of which have right lowest bits.
var wrongVnis = []int{0, -1, -2, -5010, -mostVni, -mostVni - 1, mostVni + 1, mostVni + 2, 1 << 25, 1<<24 + 5010, 1<<30 + 1,
	math.MaxInt32, math.MinInt32, math.MaxInt, math.MaxInt - 1, math.MinInt, math.MinInt + 1, math.MinInt + 5010}

// ips are addresses of 32 bits, the smallest and the greatest among them.
func ips() []uint32 {
	l := []uint32{0, 1, 0x0a000001, 0x01020304, 0xfffefdfc, math.MaxUint32 - 1, math.MaxUint32}
	for i := range 32 {
		l = append(l, 1<<i)
	}
	return l
}

// frames are frames that may be wrapped: with each edge of each field, and with each bit of each number.
func frames() []api.Frame {
	l := []api.Frame{frame(), {}, {Body: []byte{}}, {Dst: 1<<48 - 1, Src: 1, Type: 0x0800, Body: []byte("a")},
		{Dst: 1<<48 - 1, Src: 1<<48 - 1, Type: 65535, Body: bytes.Repeat([]byte{255}, 1450)},
		{Dst: 1, Src: 2, Type: 0x80ff}, {Dst: 1, Src: 2, Type: 0x8101}, {Dst: 1, Src: 2, Type: 0x0081, Body: []byte{0x81, 0}}}
	for i := range 48 {
		l = append(l, api.Frame{Dst: 1 << i, Src: 5}, api.Frame{Dst: 5, Src: 1 << i})
	}
	for i := range 16 {
		l = append(l, api.Frame{Type: 1 << i, Body: body(i)})
	}
	for _, n := range []int{1, 2, 45, 46, 191, 192, 193, 463, 464, 1421, 1422, 1449, 1450} {
		l = append(l, api.Frame{Dst: 2, Src: 3, Type: n, Body: body(n)})
	}
	return l
}

// some are things that may be wrapped: each of frames, each of vnis, and each of ips on either side.
func some() []carried {
	l := []carried{plain(), {0, 0, 1, api.Frame{}}, {math.MaxUint32, math.MaxUint32, mostVni, frame()}, {0, math.MaxUint32, 1, frame()}, {math.MaxUint32, 0, 1, frame()}}
	for i, f := range frames() {
		l = append(l, carried{0x0a000001 + uint32(i), 0x0a000101, i + 1, f})
	}
	for _, vni := range vnis() {
		l = append(l, carried{1, 2, vni, frame()})
	}
	for _, ip := range ips() {
		l = append(l, carried{ip, 1, 7, frame()}, carried{1, ip, 7, frame()})
	}
	return l
}

// total is the sum of bytes, even in number, by the words of chapter 6.
func total(b []byte) int {
	n := 0
	for i := 0; i < len(b); i += 2 {
		n += 256*int(b[i]) + int(b[i+1])
	}
	for n > 65535 {
		n = n/65536 + n%65536
	}
	return n
}

// summed are a frame's bytes with the sum that the header of the packet in them has by the words of chapter 7.
func summed(b []byte) []byte {
	out := append([]byte(nil), b...)
	out[ipAt+10], out[ipAt+11] = 0, 0
	s := 65535 - total(out[ipAt:udpAt])
	out[ipAt+10], out[ipAt+11] = byte(s/256), byte(s%256)
	return out
}

// four and six are numbers as so many bytes.
func four(n uint32) []byte { return []byte{byte(n >> 24), byte(n >> 16), byte(n >> 8), byte(n)} }
func six(n uint64) []byte  { return append([]byte{byte(n >> 40), byte(n >> 32)}, four(uint32(n))...) }

// two is a number as two bytes.
func two(n int) []byte { return []byte{byte(n / 256), byte(n % 256)} }

// join is lists behind each other.
func join(l ...[]byte) []byte { return bytes.Join(l, nil) }

// inner are a frame's bytes by the words of chapter 4.
func inner(f api.Frame) []byte { return join(six(f.Dst), six(f.Src), two(f.Type), f.Body) }

// written are the bytes that c is wrapped into, by the chapters' words.
func written(c carried) []byte {
	b := inner(c.frame)
	port := 49152 + int((c.frame.Dst^c.frame.Src)%16384)
	return summed(join(
		[]byte{2, 0}, four(c.to), []byte{2, 0}, four(c.from), []byte{8, 0},
		[]byte{0x45, 0}, two(36+len(b)), []byte{0, 0, 0, 0, 64, 17, 0, 0}, four(c.from), four(c.to),
		two(port), []byte{0x12, 0xb5}, two(16+len(b)), []byte{0, 0},
		[]byte{8, 0, 0, 0}, four(uint32(c.vni))[1:], []byte{0}, b))
}

// number is the number that some bytes are.
func number(b []byte) int {
	n := 0
	for _, c := range b {
		n = 256*n + int(c)
	}
	return n
}

// said is what Unwrap answers of bytes by the chapters' words.
func said(b []byte) (c carried, e api.Errno) {
	if len(b) < 14 {
		return c, api.ErrShort
	}
	if len(b) > 1518 {
		return c, api.ErrLong
	}
	if number(b[12:14]) != 0x0800 {
		return c, api.ErrForm
	}
	ip := b[14:]
	if len(ip) < 20 {
		return c, api.ErrShort
	}
	if ip[0] != 0x45 || number(ip[2:4]) < 20 {
		return c, api.ErrForm
	}
	if number(ip[2:4]) > len(ip) {
		return c, api.ErrShort
	}
	if number(ip[6:8]) != 0 {
		return c, api.ErrForm
	}
	if total(ip[:20]) != 65535 {
		return c, api.ErrSum
	}
	if ip[9] != 17 {
		return c, api.ErrForm
	}
	e = saidOfDatagram(ip[20:number(ip[2:4])], &c)
	if e != api.OK {
		return carried{}, e
	}
	c.from, c.to = uint32(number(ip[12:16])), uint32(number(ip[16:20]))
	return c, e
}

// saidOfDatagram is what Unwrap answers of a packet's body by the chapters' words.
func saidOfDatagram(b []byte, c *carried) api.Errno {
	if len(b) < 8 {
		return api.ErrShort
	}
	n := number(b[4:6])
	if n < 8 {
		return api.ErrForm
	}
	if n > len(b) {
		return api.ErrShort
	}
	if number(b[6:8]) != 0 {
		return api.ErrSum
	}
	if number(b[2:4]) != 4789 {
		return api.ErrForm
	}
	b = b[8:n]
	if len(b) < 8 {
		return api.ErrShort
	}
	if number(b[:4]) != 0x08000000 || number(b[4:7]) == 0 || b[7] != 0 {
		return api.ErrForm
	}
	c.vni, b = number(b[4:7]), b[8:]
	if len(b) < 14 {
		return api.ErrShort
	}
	if number(b[12:14]) == 0x8100 {
		return api.ErrTag
	}
	c.frame = api.Frame{Dst: uint64(number(b[:6])), Src: uint64(number(b[6:12])), Type: number(b[12:14]), Body: b[14:]}
	return api.OK
}

// changed are bytes with others in the place of those from at on.
func changed(b []byte, at int, with ...byte) []byte {
	out := append([]byte(nil), b...)
	copy(out[at:], with)
	return out
}

// alike tells whether two frames have the same numbers and bytes.
func alike(f, g api.Frame) bool {
	return f.Dst == g.Dst && f.Src == g.Src && f.Type == g.Type && string(f.Body) == string(g.Body)
}

// begin is the beginning of bytes, to tell of them.
func begin(b []byte) []byte { return b[:min(len(b), 72)] }

// isHead asks that a vni has the head that the chapter's words have.
func isHead(t *testing.T, vni int) {
	t.Helper()
	want := join([]byte{8, 0, 0, 0}, four(uint32(vni))[1:], []byte{0})
	if got, e := vxlan.Head(vni); e != api.OK || !bytes.Equal(got, want) {
		t.Errorf("Head(%d) = %x, %d", vni, got, e)
	}
}

// isVni asks that b is the head of want, with those bytes behind it.
func isVni(t *testing.T, b []byte, want int, behind []byte) {
	t.Helper()
	if vni, rest, e := vxlan.Vni(b); e != api.OK || vni != want || !bytes.Equal(rest, behind) {
		t.Errorf("Vni(%x) = %d, %x, %d, not %d, %x", begin(b), vni, begin(rest), e, want, begin(behind))
	}
}

// noVni asks that b is refused, with nothing beside the error.
func noVni(t *testing.T, b []byte, want api.Errno) {
	t.Helper()
	if vni, rest, e := vxlan.Vni(b); e != want || vni != 0 || rest != nil {
		t.Errorf("Vni(%x) = %d, %x, %d, not %d", begin(b), vni, begin(rest), e, want)
	}
}

// wrapped asks that c is wrapped as the chapters' words have it, and answers its bytes.
func wrapped(t *testing.T, c carried) []byte {
	t.Helper()
	got, e := vxlan.Wrap(c.from, c.to, c.vni, c.frame)
	if e != api.OK || !bytes.Equal(got, written(c)) {
		t.Errorf("Wrap(%x, %x, %d, %x) = %x, %d", c.from, c.to, c.vni, begin(inner(c.frame)), begin(got), e)
	}
	return got
}

// notWrapped asks that c is refused, with nothing beside the error.
func notWrapped(t *testing.T, c carried, want api.Errno) {
	t.Helper()
	if got, e := vxlan.Wrap(c.from, c.to, c.vni, c.frame); e != want || got != nil {
		t.Errorf("Wrap(%x, %x, %d, to %x from %x of %x with %d bytes) = %x, %d, not %d",
			c.from, c.to, c.vni, c.frame.Dst, c.frame.Src, c.frame.Type, len(c.frame.Body), begin(got), e, want)
	}
}

// unwrapped asks that b is unwrapped as want.
func unwrapped(t *testing.T, b []byte, want carried) {
	t.Helper()
	from, to, vni, f, e := vxlan.Unwrap(b)
	if e != api.OK || from != want.from || to != want.to || vni != want.vni || !alike(f, want.frame) {
		t.Errorf("Unwrap(%x) = %x, %x, %d, %x, %d", begin(b), from, to, vni, begin(inner(f)), e)
	}
}

// notUnwrapped asks that b is refused, with nothing beside the error.
func notUnwrapped(t *testing.T, b []byte, want api.Errno) {
	t.Helper()
	from, to, vni, f, e := vxlan.Unwrap(b)
	if e != want || from != 0 || to != 0 || vni != 0 || f.Dst != 0 || f.Src != 0 || f.Type != 0 || f.Body != nil {
		t.Errorf("Unwrap(%x) = %x, %x, %d, %x, %d, not %d", begin(b), from, to, vni, begin(inner(f)), e, want)
	}
}

// asSaid asks that b is unwrapped, or refused, as the chapters' words have it, and answers with which error.
func asSaid(t *testing.T, b []byte) api.Errno {
	t.Helper()
	want, e := said(b)
	if e != api.OK {
		notUnwrapped(t, b, e)
	} else {
		unwrapped(t, b, want)
	}
	return e
}

// P9.1, Head

func TestHeadHasEachByte(t *testing.T) {
	for vni, want := range map[int]string{
		1:        "\x08\x00\x00\x00\x00\x00\x01\x00",
		5010:     "\x08\x00\x00\x00\x00\x13\x92\x00",
		0x123456: "\x08\x00\x00\x00\x12\x34\x56\x00",
		mostVni:  "\x08\x00\x00\x00\xff\xff\xff\x00",
	} {
		if got, e := vxlan.Head(vni); e != api.OK || string(got) != want {
			t.Errorf("Head(%d) = %x, %d", vni, got, e)
		}
	}
	for _, vni := range vnis() {
		isHead(t, vni)
	}
}

func TestHeadOfWrongNumbers(t *testing.T) {
	for _, vni := range wrongVnis {
		if got, e := vxlan.Head(vni); e != api.ErrVni || got != nil {
			t.Errorf("Head(%d) = %x, %d", vni, got, e)
		}
	}
}

func TestHeadAroundItsEdges(t *testing.T) {
	for _, edge := range []int{0, mostVni} {
		for vni := edge - 600; vni < edge+600; vni++ {
			if vni >= 1 && vni <= mostVni {
				isHead(t, vni)
			} else if got, e := vxlan.Head(vni); e != api.ErrVni || got != nil {
				t.Errorf("Head(%d) = %x, %d", vni, got, e)
			}
		}
	}
}

// P9.1, Vni

func TestVniTellsTheNumber(t *testing.T) {
	isVni(t, []byte("\x08\x00\x00\x00\x00\x00\x01\x00"), 1, nil)
	isVni(t, []byte("\x08\x00\x00\x00\x00\x13\x92\x00"), 5010, nil)
	isVni(t, []byte("\x08\x00\x00\x00\x12\x34\x56\x00ab"), 0x123456, []byte("ab"))
	isVni(t, []byte("\x08\x00\x00\x00\xff\xff\xff\x00\x08\x00\x00\x00\x00\x00\x01\x00"), mostVni, []byte("\x08\x00\x00\x00\x00\x00\x01\x00"))
	for _, vni := range vnis() {
		head, _ := vxlan.Head(vni)
		for _, n := range []int{0, 1, 2, 7, 8, 14, 1464, 1 << 17} {
			isVni(t, join(head, body(n)), vni, body(n))
		}
	}
}

// Heads and numbers are one another: each byte of a number goes to its place, and comes from there.
func TestVniOfEachHead(t *testing.T) {
	for n := 1; n <= mostVni; n += 97 {
		head, e := vxlan.Head(n)
		if e != api.OK {
			t.Fatalf("Head(%d): %d", n, e)
		}
		if vni, rest, e := vxlan.Vni(head); e != api.OK || vni != n || len(rest) != 0 {
			t.Fatalf("Vni(%x) = %d, %x, %d", head, vni, rest, e)
		}
	}
}

func TestVniOfFewBytes(t *testing.T) {
	for _, b := range [][]byte{nil, {}, make([]byte, 0, 100), []byte(plainBytes)[:0]} {
		noVni(t, b, api.ErrShort)
	}
	head := []byte("\x08\x00\x00\x00\x00\x13\x92\x00\x07")
	for n := range 8 {
		noVni(t, head[:n], api.ErrShort) // what lies behind in their memory is not read
		noVni(t, make([]byte, n), api.ErrShort)
		noVni(t, bytes.Repeat([]byte{255}, n), api.ErrShort) // nor is the form asked
	}
	isVni(t, head[:8], 5010, nil)
	isVni(t, head[:9], 5010, []byte{7})
	noVni(t, make([]byte, 8), api.ErrForm)
	noVni(t, make([]byte, 9), api.ErrForm)
	noVni(t, bytes.Repeat([]byte{255}, 8), api.ErrForm)
}

// The number 0 is no head's, whatever stands behind it.
func TestVniOfNoNumber(t *testing.T) {
	none := []byte("\x08\x00\x00\x00\x00\x00\x00\x00")
	for _, n := range []int{0, 1, 8, 100} {
		noVni(t, join(none, body(n)), api.ErrForm)
		noVni(t, join(none, none, body(n)), api.ErrForm)
	}
	isVni(t, changed(none, 6, 1), 1, nil)
	isVni(t, changed(none, 5, 1), 256, nil)
	isVni(t, changed(none, 4, 1), 65536, nil)
}

// Each value of each byte: of the five that are fixed just one is right, of the others each.
func TestVniOfEachByte(t *testing.T) {
	whole := []byte("\x08\x00\x00\x00\x12\x34\x56\x00behind")
	for at := range 8 {
		for v := range 256 {
			b := changed(whole, at, byte(v))
			if at < 4 || at == 7 {
				if byte(v) != whole[at] {
					noVni(t, b, api.ErrForm)
					noVni(t, b[:8], api.ErrForm)
					continue
				}
			}
			isVni(t, b, number(b[4:7]), []byte("behind"))
			isVni(t, b[:8], number(b[4:7]), nil)
		}
	}
}

// P9.2

func TestWrapPutsEachPart(t *testing.T) {
	c := plain()
	if got, e := vxlan.Wrap(c.from, c.to, c.vni, c.frame); e != api.OK || string(got) != plainBytes {
		t.Errorf("Wrap of unlike bytes: %x, %d", got, e)
	}
	b, e := vxlan.Wrap(0xc0a80001, 0xc0a80002, 5010, api.Frame{Dst: 1<<48 - 1, Src: 0x02000a000001, Type: 0x0806})
	const want = "\x02\x00\xc0\xa8\x00\x02\x02\x00\xc0\xa8\x00\x01\x08\x00" +
		"\x45\x00\x00\x32\x00\x00\x00\x00\x40\x11\xf9\x67\xc0\xa8\x00\x01\xc0\xa8\x00\x02" +
		"\xff\xfe\x12\xb5\x00\x1e\x00\x00\x08\x00\x00\x00\x00\x13\x92\x00" +
		"\xff\xff\xff\xff\xff\xff\x02\x00\x0a\x00\x00\x01\x08\x06"
	if e != api.OK || len(b) != 64 || string(b) != want { // 64 bytes, as the chapter's example has it
		t.Errorf("Wrap of a frame of 14 bytes: %d bytes, %x, %d", len(b), b, e)
	}
	for _, c := range some() {
		wrapped(t, c)
	}
}

// The smallest and the greatest ip, on either side.
func TestWrapAtTheEdgesOfIps(t *testing.T) {
	for from, head := range map[uint32]string{0: "\x02\x00\x00\x00\x00\x00", math.MaxUint32: "\x02\x00\xff\xff\xff\xff"} {
		b := wrapped(t, carried{from, 0x01020304, 1, frame()})
		if string(b[:6]) != "\x02\x00\x01\x02\x03\x04" || string(b[6:12]) != head || string(b[26:30]) != head[2:] || string(b[30:34]) != "\x01\x02\x03\x04" {
			t.Errorf("Wrap from %x: %x", from, begin(b))
		}
		b = wrapped(t, carried{0x01020304, from, 1, frame()})
		if string(b[:6]) != head || string(b[6:12]) != "\x02\x00\x01\x02\x03\x04" || string(b[26:30]) != "\x01\x02\x03\x04" || string(b[30:34]) != head[2:] {
			t.Errorf("Wrap to %x: %x", from, begin(b))
		}
		wrapped(t, carried{from, from, 1, frame()})
	}
}

// Each length of a frame: up to 1464 bytes it is wrapped.
func TestWrapOfEachLength(t *testing.T) {
	room := body(4000) // what lies behind the body in its memory is not wrapped
	for n := range 1600 {
		f := frame()
		f.Body = room[:n]
		c := carried{1, 2, 3, f}
		if 14+n <= 1464 {
			if b := wrapped(t, c); len(b) != 64+n {
				t.Errorf("Wrap of a frame of %d bytes has %d", 14+n, len(b))
			}
		} else {
			notWrapped(t, c, api.ErrLong)
		}
	}
	for _, n := range []int{4000, 65535, 65536, 65536 + 100, 1 << 20} {
		notWrapped(t, carried{1, 2, 3, api.Frame{Body: make([]byte, n)}}, api.ErrLong)
	}
}

// The edges by hand, so that not only a rule says them.
func TestWrapAtTheEdgesOfLengths(t *testing.T) {
	f := frame()
	for _, b := range [][]byte{nil, {}, make([]byte, 0, 2000), body(9)[:0]} {
		f.Body = b
		if got, e := vxlan.Wrap(1, 2, 3, f); e != api.OK || len(got) != 64 {
			t.Errorf("Wrap of a frame without a body: %d bytes, %d", len(got), e)
		}
	}
	f.Body = body(1450)
	if got, e := vxlan.Wrap(1, 2, 3, f); e != api.OK || len(got) != 1514 || string(got[16:18]) != "\x05\xdc" || string(got[38:40]) != "\x05\xc8" {
		t.Errorf("Wrap of a frame of 1464 bytes: %d bytes, %d", len(got), e)
	}
	for _, n := range []int{1451, 1452, 1453, 1454, 1455, 1503, 1504} { // 1465 and on to 1518, which ether.Put would take
		f.Body = body(n)
		notWrapped(t, carried{1, 2, 3, f}, api.ErrLong)
	}
	f.Body = body(1505)
	notWrapped(t, carried{1, 2, 3, f}, api.ErrLong)
}

// A tagged frame is refused, whatever else it is.
func TestWrapOfTaggedFrames(t *testing.T) {
	for _, b := range [][]byte{nil, {0, 10, 8, 0}, {0, 10, 8, 0, 1, 2}, {0x81, 0}, {0xff, 0xff, 0x81, 0}, body(46), body(1450), body(1451), body(1504), body(1505), body(70000)} {
		for _, m := range []uint64{0, 1, 1<<48 - 1, 1 << 48, math.MaxUint64} {
			for _, vni := range append([]int{1, mostVni}, wrongVnis...) {
				notWrapped(t, carried{1, 2, vni, api.Frame{Dst: m, Src: 1, Type: 0x8100, Body: b}}, api.ErrTag)
				notWrapped(t, carried{1, 2, vni, api.Frame{Dst: 1, Src: m, Type: 0x8100, Body: b}}, api.ErrTag)
			}
		}
	}
}

func TestWrapOfEachType(t *testing.T) {
	for n := -300; n < 66000; n++ {
		f := frame()
		f.Type = n
		c := carried{1, 2, 3, f}
		switch {
		case n == 0x8100:
			notWrapped(t, c, api.ErrTag)
		case n < 0 || n > 65535:
			notWrapped(t, c, api.ErrForm)
		default:
			wrapped(t, c)
		}
	}
	for _, n := range []int{math.MinInt, math.MinInt + 0x0800, -65536, -0x8100, 65536 + 0x0800, 65536 + 0x8100, 1 << 24, math.MaxInt32, math.MaxInt} {
		notWrapped(t, carried{1, 2, 3, api.Frame{Type: n}}, api.ErrForm)
	}
}

// Each bit above an address's 48 is one too many.
func TestWrapOfWrongAddresses(t *testing.T) {
	for i := 48; i < 64; i++ {
		notWrapped(t, carried{1, 2, 3, api.Frame{Dst: 1 << i}}, api.ErrForm)
		notWrapped(t, carried{1, 2, 3, api.Frame{Src: 1 << i}}, api.ErrForm)
		notWrapped(t, carried{1, 2, 3, api.Frame{Dst: 1<<i | 5, Src: 1<<i | 5}}, api.ErrForm)
	}
	notWrapped(t, carried{1, 2, 3, api.Frame{Dst: math.MaxUint64}}, api.ErrForm)
	notWrapped(t, carried{1, 2, 3, api.Frame{Src: math.MaxUint64}}, api.ErrForm)
}

func TestWrapOfEachVni(t *testing.T) {
	for _, vni := range vnis() {
		wrapped(t, carried{1, 2, vni, frame()})
	}
	for _, vni := range wrongVnis {
		notWrapped(t, carried{1, 2, vni, frame()}, api.ErrVni)
		notWrapped(t, carried{0, math.MaxUint32, vni, api.Frame{}}, api.ErrVni)
	}
}

// Where several errors apply the first one of the chapter is told: each set of faults.
func TestWrapOfSeveralFaults(t *testing.T) {
	for _, kind := range []int{0x0800, 0x8100, -1, 65536} {
		for _, dst := range []uint64{1, 1 << 48} {
			for _, n := range []int{3, 1450, 1451, 1504, 1505, 70000} {
				for _, vni := range []int{7, 0, mostVni + 1} {
					want := api.OK
					switch {
					case kind == 0x8100:
						want = api.ErrTag
					case dst == 1<<48 || kind < 0 || kind > 65535:
						want = api.ErrForm
					case n > 1504: // what ether.Put refuses is told ahead of the VNI
						want = api.ErrLong
					case vni != 7:
						want = api.ErrVni
					case n > 1450:
						want = api.ErrLong
					}
					c := carried{1, 2, vni, api.Frame{Dst: dst, Src: 1, Type: kind, Body: body(n)}}
					if want == api.OK {
						wrapped(t, c)
					} else {
						notWrapped(t, c, want)
					}
				}
			}
		}
	}
}

// The datagram's port hangs on the frame's addresses alone, and on no order of them.
func TestWrapHasThePortOfBothAddresses(t *testing.T) {
	for _, x := range []struct {
		dst, src uint64
		want     string
	}{
		{0, 0, "\xc0\x00"}, {0, 1, "\xc0\x01"}, {1, 1, "\xc0\x00"}, {2, 1, "\xc0\x03"}, {0x3fff, 0, "\xff\xff"}, {0x4000, 0, "\xc0\x00"},
		{1<<48 - 1, 0, "\xff\xff"}, {1<<48 - 1, 0x02000a000001, "\xff\xfe"}, {0x02000a000001, 0x02000a000002, "\xc0\x03"},
	} {
		for _, vni := range []int{1, mostVni} {
			for _, ip := range []uint32{0, 9, math.MaxUint32} {
				there, _ := vxlan.Wrap(ip, 1, vni, api.Frame{Dst: x.dst, Src: x.src})
				back, _ := vxlan.Wrap(1, ip, vni, api.Frame{Dst: x.src, Src: x.dst, Type: 1, Body: body(9)})
				if len(there) < 36 || len(back) < 36 || string(there[34:36]) != x.want || string(back[34:36]) != x.want {
					t.Errorf("Wrap of a frame to %x from %x: %x, and the other way round %x", x.dst, x.src, begin(there), begin(back))
				}
			}
		}
	}
}

// P9.3

func TestUnwrapTellsEachPart(t *testing.T) {
	unwrapped(t, []byte(plainBytes), plain())
	for _, c := range some() {
		unwrapped(t, written(c), c)
	}
}

// What no step asks for may be anything: addresses around the packet, Tos, Id and Ttl, and the port that it came from.
func TestUnwrapAsksNothingElse(t *testing.T) {
	free := []int{0, 1, 2, 3, 4, 5, 6, 7, 8, 9, 10, 11, ipAt + 1, ipAt + 4, ipAt + 5, ipAt + 8, udpAt, udpAt + 1}
	for _, at := range free {
		for v := range 256 {
			unwrapped(t, summed(changed([]byte(plainBytes), at, byte(v))), plain())
		}
	}
	b := []byte(plainBytes)
	for _, at := range free {
		b[at] = 0xff
	}
	unwrapped(t, summed(b), plain())
	for _, at := range free {
		b[at] = 0
	}
	unwrapped(t, summed(b), plain())
}

// What stands behind the packet, behind the datagram in it, and behind both, is left out.
func TestUnwrapLeavesOutWhatStandsBehind(t *testing.T) {
	for _, c := range []carried{plain(), {0, 0, 1, api.Frame{}}, {1, 2, 3, api.Frame{Body: body(1000)}}} {
		b := written(c)
		for _, n := range []int{1, 2, 14, 400} {
			unwrapped(t, join(b, body(n)), c)
			unwrapped(t, join(b, make([]byte, n)), c)
			more := summed(changed(b, ipAt+2, two(len(b)-ipAt+n)...))
			unwrapped(t, join(more, body(n)), c)
			unwrapped(t, join(more, body(n+7)), c)
			notUnwrapped(t, join(more, body(n-1)), api.ErrShort)
		}
		unwrapped(t, join(b, body(1518-len(b))), c)
		notUnwrapped(t, join(b, body(1519-len(b))), api.ErrLong)
	}
}

// Each number of bytes: what is cut off is missed first by chapter 4, then by chapter 7.
func TestUnwrapOfFewBytes(t *testing.T) {
	for _, b := range [][]byte{nil, {}, make([]byte, 0, 100), []byte(plainBytes)[:0]} {
		notUnwrapped(t, b, api.ErrShort)
	}
	whole := []byte(plainBytes)
	for n := range len(whole) {
		notUnwrapped(t, whole[:n], api.ErrShort) // what lies behind in their memory is not read
	}
	unwrapped(t, whole, plain())
}

// What chapter 4's Take refuses, around the packet.
func TestUnwrapOfWrongFrames(t *testing.T) {
	for _, n := range []int{0, 1, 13} {
		notUnwrapped(t, make([]byte, n), api.ErrShort)
		notUnwrapped(t, bytes.Repeat([]byte{255}, n), api.ErrShort)
	}
	for _, n := range []int{1519, 1520, 4000, 65536, 1 << 20} {
		notUnwrapped(t, join([]byte(plainBytes), make([]byte, n-len(plainBytes))), api.ErrLong)
		notUnwrapped(t, make([]byte, n), api.ErrLong)
	}
	notUnwrapped(t, make([]byte, 14), api.ErrForm)
	notUnwrapped(t, make([]byte, 1518), api.ErrForm)
}

// Each Type but one is wrong; of a tagged frame around the packet it is no other error.
func TestUnwrapOfEachType(t *testing.T) {
	for n := range 1 << 16 {
		b := changed([]byte(plainBytes), 12, two(n)...)
		if n == 0x0800 {
			unwrapped(t, b, plain())
		} else {
			notUnwrapped(t, b, api.ErrForm)
		}
	}
	tagged := join([]byte(plainBytes[:12]), []byte{0x81, 0, 0, 10}, []byte(plainBytes[12:]))
	notUnwrapped(t, tagged, api.ErrForm)
	notUnwrapped(t, changed([]byte(plainBytes[:14]), 12, 0x81, 0), api.ErrForm) // its Body would be too short
}

// What chapter 7's Take refuses.
func TestUnwrapOfWrongPackets(t *testing.T) {
	b := []byte(plainBytes)
	for n := ipAt; n < udpAt; n++ {
		notUnwrapped(t, b[:n], api.ErrShort)
	}
	for v := range 256 { // the version, and the header's size
		if v != 0x45 {
			notUnwrapped(t, summed(changed(b, ipAt, byte(v))), api.ErrForm)
		}
	}
	have := len(b) - ipAt
	for n := range 1 << 16 { // the size
		x := summed(changed(b, ipAt+2, two(n)...))
		switch {
		case n < 20:
			notUnwrapped(t, x, api.ErrForm)
		case n < have: // the datagram in it has less room than it says
			notUnwrapped(t, x, api.ErrShort)
		case n == have:
			unwrapped(t, x, plain())
		default:
			notUnwrapped(t, x, api.ErrShort)
		}
	}
	for i := range 16 { // the two bytes behind Id
		notUnwrapped(t, summed(changed(b, ipAt+6, two(1<<i)...)), api.ErrForm)
	}
	for n := range 1 << 16 { // the sum
		if n != 0x6aa5 {
			notUnwrapped(t, changed(b, ipAt+10, two(n)...), api.ErrSum)
		}
	}
}

func TestUnwrapOfEachProto(t *testing.T) {
	for v := range 256 {
		b := changed([]byte(plainBytes), ipAt+9, byte(v))
		if v == 17 {
			unwrapped(t, b, plain())
			continue
		}
		notUnwrapped(t, b, api.ErrSum) // the sum is asked ahead of it
		notUnwrapped(t, summed(b), api.ErrForm)
	}
}

// What chapter 8's Take refuses.
func TestUnwrapOfWrongDatagrams(t *testing.T) {
	b := []byte(plainBytes)
	for n := range 8 { // packets whose Body is too short for one
		x := summed(changed(b[:udpAt+n], ipAt+2, two(20+n)...))
		notUnwrapped(t, x, api.ErrShort)
		notUnwrapped(t, join(x, b[udpAt+n:]), api.ErrShort) // what stands behind the packet is none of it
	}
	have := len(b) - udpAt
	for n := range 1 << 16 {
		x := changed(b, udpAt+4, two(n)...)
		switch {
		case n < 8:
			notUnwrapped(t, x, api.ErrForm)
		case n < 16: // there is no room for a head
			notUnwrapped(t, x, api.ErrShort)
		case n < 30: // there is no room for a frame
			notUnwrapped(t, x, api.ErrShort)
		case n <= have:
			want := plain()
			want.frame.Body = want.frame.Body[:n-30]
			unwrapped(t, x, want)
		default:
			notUnwrapped(t, x, api.ErrShort)
		}
	}
	for n := 1; n < 1<<16; n++ {
		notUnwrapped(t, changed(b, udpAt+6, two(n)...), api.ErrSum)
	}
}

// Each port but one is wrong, and the one that it came from is not asked.
func TestUnwrapOfEachPort(t *testing.T) {
	for n := range 1 << 16 {
		b := changed([]byte(plainBytes), udpAt+2, two(n)...)
		if n == 4789 {
			unwrapped(t, b, plain())
		} else {
			notUnwrapped(t, b, api.ErrForm)
		}
		unwrapped(t, changed([]byte(plainBytes), udpAt, two(n)...), plain())
	}
	notUnwrapped(t, changed([]byte(plainBytes), udpAt, 0x12, 0xb5, 0xd0, 0x10), api.ErrForm) // both the other way round
}

// What Vni refuses.
func TestUnwrapOfWrongHeads(t *testing.T) {
	b := []byte(plainBytes)
	for n := range 8 { // datagrams whose body is too short for one
		notUnwrapped(t, changed(b, udpAt+4, two(8+n)...), api.ErrShort)
	}
	for _, at := range []int{0, 1, 2, 3, 7} {
		for v := range 256 {
			if x := changed(b, headAt+at, byte(v)); !bytes.Equal(x, b) {
				notUnwrapped(t, x, api.ErrForm)
			}
		}
	}
	notUnwrapped(t, changed(b, headAt+4, 0, 0, 0), api.ErrForm)
	for _, vni := range vnis() {
		want := plain()
		want.vni = vni
		unwrapped(t, changed(b, headAt+4, four(uint32(vni))[1:]...), want)
	}
}

// What chapter 4's Take refuses of what is left, and a tag on it.
func TestUnwrapOfWrongFramesWithin(t *testing.T) {
	b := []byte(plainBytes)
	for n := range 14 {
		notUnwrapped(t, changed(b, udpAt+4, two(16+n)...), api.ErrShort)
		if n > 0 {
			x := summed(changed(b[:innerAt+n], ipAt+2, two(36+n)...))
			notUnwrapped(t, changed(x, udpAt+4, two(16+n)...), api.ErrShort)
		}
	}
	for n := range 1 << 16 {
		x := changed(b, innerAt+12, two(n)...)
		if n == 0x8100 {
			notUnwrapped(t, x, api.ErrTag)
			continue
		}
		want := plain()
		want.frame.Type = n
		unwrapped(t, x, want)
	}
	for _, n := range []int{0, 1, 3, 4, 5, 46, 1450} { // the tag itself is not asked
		for _, c := range []byte{0, 10, 0xff} {
			notUnwrapped(t, written(carried{1, 2, 3, api.Frame{Dst: 1, Src: 2, Type: 0x8100, Body: bytes.Repeat([]byte{c}, n)}}), api.ErrTag)
		}
	}
}

// Frames of more than 1464 bytes, up to what a frame around them has room for, are unwrapped, though they are not wrapped.
func TestUnwrapOfLongFrames(t *testing.T) {
	for n := 1465; n <= 1468; n++ {
		c := carried{1, 2, 3, api.Frame{Dst: 4, Src: 5, Type: 6, Body: body(n - 14)}}
		unwrapped(t, written(c), c)
		notWrapped(t, c, api.ErrLong)
	}
	notUnwrapped(t, written(carried{1, 2, 3, api.Frame{Body: body(1455)}}), api.ErrLong)
}

// fault is something wrong with what is unwrapped; of one group only one may be, and one that is late is made behind the sum.
type fault struct {
	group string
	want  api.Errno
	late  bool
	make  func(b []byte) []byte
}

// putting is a fault made by some bytes in the place of others.
func putting(at int, with ...byte) func(b []byte) []byte {
	return func(b []byte) []byte { return changed(b, at, with...) }
}

// faults are all that Unwrap refuses, in the order in which it asks.
func faults() []fault {
	cut := func(n int) func(b []byte) []byte { return func(b []byte) []byte { return b[:n] } }
	return []fault{
		{"length", api.ErrShort, true, cut(13)},
		{"length", api.ErrLong, true, func(b []byte) []byte { return join(b, make([]byte, 1500)) }},
		{"", api.ErrForm, false, putting(12, 8, 6)},
		{"length", api.ErrShort, true, cut(33)},
		{"", api.ErrForm, false, putting(ipAt, 0x46)},
		{"packet", api.ErrForm, false, putting(ipAt+2, 0, 19)},
		{"packet", api.ErrShort, false, putting(ipAt+2, 0, 54)},
		{"", api.ErrForm, false, putting(ipAt+6, 0x20, 0)},
		{"", api.ErrSum, true, putting(ipAt+10, 0, 0)},
		{"", api.ErrForm, false, putting(ipAt+9, 6)},
		{"packet", api.ErrShort, false, putting(ipAt+2, 0, 27)},
		{"datagram", api.ErrForm, false, putting(udpAt+4, 0, 7)},
		{"datagram", api.ErrShort, false, putting(udpAt+4, 0, 34)},
		{"", api.ErrSum, false, putting(udpAt+6, 0, 1)},
		{"", api.ErrForm, false, putting(udpAt+2, 0x12, 0xb4)},
		{"datagram", api.ErrShort, false, putting(udpAt+4, 0, 15)},
		{"", api.ErrForm, false, putting(headAt, 0)},
		{"", api.ErrForm, false, putting(headAt+4, 0, 0, 0)},
		{"datagram", api.ErrShort, false, putting(udpAt+4, 0, 29)},
		{"", api.ErrTag, false, putting(innerAt+12, 0x81, 0)},
	}
}

// faulty are bytes with each of some faults, and the first one's error; false: two of them cannot be at once.
func faulty(l []fault, set int) ([]byte, api.Errno, bool) {
	b, want, groups := []byte(plainBytes), api.OK, map[string]bool{}
	var late []func(b []byte) []byte
	for i, f := range l {
		if set>>i&1 == 0 {
			continue
		}
		if f.group != "" && groups[f.group] {
			return nil, api.OK, false
		}
		groups[f.group] = true
		if want == api.OK {
			want = f.want
		}
		if f.late {
			late = append(late, f.make)
		} else {
			b = f.make(b)
		}
	}
	b = summed(b)
	for i := len(late) - 1; i >= 0; i-- { // a wrong sum ahead of a wrong length, which may cut it off
		b = late[i](b)
	}
	return b, want, true
}

// Where several errors apply the first one of the chapter is told: each fault alone, and each set of them.
func TestUnwrapOfSeveralFaults(t *testing.T) {
	l, sets := faults(), 0
	for set := range 1 << len(l) {
		b, want, ok := faulty(l, set)
		if !ok {
			continue
		}
		sets++
		if _, e := said(b); e != want {
			t.Fatalf("the faults %b are %d by the chapters' words, not %d", set, e, want)
		}
		if want == api.OK {
			unwrapped(t, b, plain())
			continue
		}
		notUnwrapped(t, b, want)
	}
	if sets != 4*4*5*1<<10 {
		t.Errorf("%d sets of faults", sets)
	}
}

// Each bit that is turned has an answer by the chapters' words, with the old sum and with the new one.
func TestUnwrapOfEachBit(t *testing.T) {
	for _, c := range some() {
		whole := written(c)
		for i := range 8 * min(len(whole), 72) {
			b := changed(whole, i/8, whole[i/8]^0x80>>(i%8))
			asSaid(t, b)
			asSaid(t, summed(b))
		}
	}
}

// Of bytes of any kind the chapters' words have an answer, and it is that.
func TestUnwrapOfBytesOfAnyKind(t *testing.T) {
	seed := uint32(1)
	next := func(n int) int {
		seed = seed*1664525 + 1013904223
		return int(seed>>8) % n
	}
	seen := map[api.Errno]int{}
	for range 100000 {
		b := written(carried{uint32(next(1 << 20)), uint32(next(1 << 20)), 1 + next(mostVni), api.Frame{Dst: uint64(next(1 << 20)), Src: uint64(next(1 << 20)), Type: next(4) * 0x4080, Body: body(next(60))}})
		for range next(3) {
			b[next(len(b))] = byte(next(256))
		}
		switch next(8) {
		case 0:
			b = b[:next(len(b))]
		case 1:
			b = join(b, body(next(1600)))
		}
		if len(b) >= udpAt && next(4) > 0 {
			b = summed(b)
		}
		seen[asSaid(t, b)]++
	}
	for _, e := range []api.Errno{api.OK, api.ErrShort, api.ErrForm, api.ErrSum, api.ErrLong, api.ErrTag} {
		if seen[e] < 1000 {
			t.Errorf("%d only %d times", e, seen[e])
		}
	}
}

// P9.4

// again asks that c is unwrapped as it was wrapped, and wrapped again as it was.
func again(t *testing.T, c carried) {
	t.Helper()
	b := wrapped(t, c)
	unwrapped(t, b, c)
	from, to, vni, f, _ := vxlan.Unwrap(b)
	if twice, e := vxlan.Wrap(from, to, vni, f); e != api.OK || !bytes.Equal(twice, b) {
		t.Errorf("%x, unwrapped and wrapped again: %x, %d", begin(b), begin(twice), e)
	}
}

func TestWhatIsWrappedIsUnwrapped(t *testing.T) {
	for _, c := range some() {
		again(t, c)
	}
}

func TestWhatIsWrappedIsUnwrappedOfEachLength(t *testing.T) {
	for n := range 1451 {
		again(t, carried{uint32(n) * 2654435761, math.MaxUint32 - uint32(n), n*11563 + 1, api.Frame{Dst: uint64(n) << 20, Src: 1<<48 - 1 - uint64(n), Type: n, Body: body(n)}})
	}
}

// What is wrapped is a frame itself, which is wrapped as long as it has room.
func TestWhatIsWrappedOftenIsUnwrappedAsOften(t *testing.T) {
	l, f := []carried{}, frame()
	for len(l) < 100 {
		c := carried{uint32(len(l)), 7, len(l) + 1, f}
		b, e := vxlan.Wrap(c.from, c.to, c.vni, c.frame)
		if e != api.OK {
			notWrapped(t, c, api.ErrLong)
			break
		}
		again(t, c)
		l = append(l, c)
		f = api.Frame{Dst: uint64(number(b[:6])), Src: uint64(number(b[6:12])), Type: number(b[12:14]), Body: b[14:]}
	}
	if len(l) != 29 { // 17 bytes, and 50 more each time, up to 1464
		t.Errorf("wrapped %d times", len(l))
	}
	for i := len(l) - 1; i >= 0; i-- {
		if !alike(f, api.Frame{Dst: 0x020000000007, Src: 0x020000000000 + uint64(i), Type: 0x0800, Body: f.Body}) {
			t.Errorf("around %d frames: to %x from %x of %x", i, f.Dst, f.Src, f.Type)
		}
		from, to, vni, g, e := vxlan.Unwrap(inner(f))
		if e != api.OK || from != uint32(i) || to != 7 || vni != i+1 || !alike(g, l[i].frame) {
			t.Errorf("unwrapped down to %d: %x, %x, %d, %d", i, from, to, vni, e)
		}
		f = g
	}
	if !alike(f, frame()) {
		t.Errorf("unwrapped whole: %x", inner(f))
	}
}

// Memory of its own, and what is handed in

// spoil writes over all of a list's memory, spare room too.
func spoil(b []byte) {
	b = b[:cap(b)]
	for i := range b {
		b[i] ^= 0xff
	}
}

// within is b in the midst of a memory of its own.
func within(b []byte) (inner, room []byte) {
	room = body(len(b) + 40)
	inner = room[20 : 20+len(b)]
	copy(inner, b)
	return inner, room
}

func TestHeadHasItsOwnMemory(t *testing.T) {
	first, _ := vxlan.Head(5010)
	spoil(first)
	isHead(t, 5010)
	isVni(t, []byte("\x08\x00\x00\x00\x00\x13\x92\x00"), 5010, nil)
	unwrapped(t, []byte(plainBytes), plain())
}

func TestVniHasItsOwnMemory(t *testing.T) {
	for _, n := range []int{0, 1, 2, 14, 100, 1464} {
		b, room := within(join([]byte("\x08\x00\x00\x00\x00\x13\x92\x00"), body(n)))
		all := string(room)
		_, first, _ := vxlan.Vni(b)
		_, second, _ := vxlan.Vni(b)
		spoil(first)
		if string(room) != all || !bytes.Equal(second, body(n)) {
			t.Errorf("what is written into %d bytes behind a head is seen elsewhere", n)
		}
		spoil(room)
		if !bytes.Equal(second, body(n)) {
			t.Errorf("what is written into a head with %d bytes is seen in what Vni told of it", n)
		}
	}
}

func TestWrapHasItsOwnMemory(t *testing.T) {
	for _, n := range []int{0, 1, 3, 46, 1449, 1450} {
		b, room := within(body(n))
		c := carried{1, 2, 3, api.Frame{Dst: 4, Src: 5, Type: 6, Body: b}}
		want, all := string(written(c)), string(room)
		first, _ := vxlan.Wrap(c.from, c.to, c.vni, c.frame)
		second, _ := vxlan.Wrap(c.from, c.to, c.vni, c.frame)
		spoil(first)
		if string(room) != all || string(second) != want {
			t.Errorf("what is written into a wrapped frame with %d bytes is seen elsewhere", n)
		}
		spoil(room)
		if string(second) != want {
			t.Errorf("what is written into a body of %d bytes is seen where it was wrapped", n)
		}
	}
}

func TestUnwrapHasItsOwnMemory(t *testing.T) {
	for _, n := range []int{0, 1, 3, 46, 1449, 1450} {
		for _, behind := range []int{0, 1, 4} {
			b, room := within(join(written(carried{1, 2, 3, api.Frame{Body: body(n)}}), body(behind)))
			all := string(room)
			_, _, _, first, _ := vxlan.Unwrap(b)
			_, _, _, second, _ := vxlan.Unwrap(b)
			spoil(first.Body)
			if string(room) != all || !bytes.Equal(second.Body, body(n)) {
				t.Errorf("what is written into a body of %d bytes that was unwrapped is seen elsewhere", n)
			}
			spoil(room)
			if !bytes.Equal(second.Body, body(n)) {
				t.Errorf("what is written into bytes with a body of %d is seen in what was unwrapped of them", n)
			}
		}
	}
}

// What lies behind what is handed in is not handed out.
func TestSpareRoomIsNotHandedOut(t *testing.T) {
	for _, n := range []int{0, 1, 3, 46, 1449, 1450} {
		room := bytes.Repeat([]byte{0xee}, 4000)
		put, _ := vxlan.Wrap(1, 2, 3, api.Frame{Body: room[:n]})
		copy(room, put)
		_, _, _, exact, _ := vxlan.Unwrap(room[:len(put)])
		_, _, _, more, _ := vxlan.Unwrap(room[:len(put)+4])
		_, rest, _ := vxlan.Vni(room[headAt:len(put)])
		if len(put) != 64+n || len(exact.Body) != n || len(more.Body) != n || len(rest) != 14+n {
			t.Errorf("%d, %d, %d and %d bytes", len(put), len(exact.Body), len(more.Body), len(rest))
		}
		for _, b := range [][]byte{put, exact.Body, more.Body, rest} {
			if bytes.IndexByte(b[len(b):cap(b)], 0xee) >= 0 {
				t.Errorf("%d bytes with what lay behind them", n)
			}
		}
	}
}

// What is refused leaves what it was given as well.
func TestWhatIsHandedInStays(t *testing.T) {
	for _, n := range []int{0, 1, 3, 46, 1450} {
		whole := written(carried{1, 2, 3, api.Frame{Dst: 4, Src: 5, Type: 6, Body: body(n)}})
		for i := range 65 * 8 {
			b, room := within(whole)
			if i < 64*8 {
				b[i/8] ^= 1 << (i % 8)
			}
			all := string(room)
			vxlan.Unwrap(b)
			vxlan.Unwrap(b[:min(len(b), i)])
			vxlan.Vni(b[headAt:])
			vxlan.Vni(b[headAt : headAt+i%9])
			if string(room) != all {
				t.Errorf("Unwrap or Vni wrote to the %d bytes that it was handed, or beside them", len(b))
			}
		}
	}
	for _, n := range []int{0, 1, 3, 46, 1450, 1451, 1504, 1505, 70000} {
		b, room := within(body(n))
		all := string(room)
		for _, vni := range []int{1, 0, mostVni, mostVni + 1} {
			for _, kind := range []int{0, 0x0800, 0x8100, -1, 65536} {
				vxlan.Wrap(1, 2, vni, api.Frame{Dst: 4, Src: 5, Type: kind, Body: b})
				vxlan.Wrap(1, 2, vni, api.Frame{Dst: 1 << 48, Src: 5, Type: kind, Body: b})
			}
		}
		if string(room) != all {
			t.Errorf("Wrap wrote to the body of %d bytes that it was handed, or beside it", n)
		}
	}
}

// No call hangs on an earlier one.
func TestNothingIsKept(t *testing.T) {
	for _, c := range some() {
		b, _ := vxlan.Wrap(c.from, c.to, c.vni, c.frame)
		vxlan.Unwrap(b)
		vxlan.Unwrap(b[:headAt])
		vxlan.Vni(b[headAt:])
		vxlan.Head(c.vni)
		vxlan.Wrap(c.from, c.to, 0, c.frame)
		wrapped(t, plain())
		unwrapped(t, []byte(plainBytes), plain())
		notUnwrapped(t, nil, api.ErrShort)
		notUnwrapped(t, []byte(plainBytes)[:64], api.ErrShort)
		notWrapped(t, carried{1, 2, 3, api.Frame{Type: 0x8100}}, api.ErrTag)
		noVni(t, make([]byte, 8), api.ErrForm)
		isVni(t, []byte("\x08\x00\x00\x00\x00\x13\x92\x00"), 5010, nil)
	}
	if vxlan.Port != 4789 {
		t.Errorf("Port: %d", vxlan.Port)
	}
}
