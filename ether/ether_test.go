package ether_test

import (
	"bytes"
	"math"
	"reflect"
	"testing"

	"paling/api"
	"paling/ether"
	"paling/mac"
)

// frame is a frame whose bytes are all unlike, so that none may stand in another one's place.
func frame() api.Frame {
	return api.Frame{Dst: 0x010203040506, Src: 0x0708090a0b0c, Type: 0x0d0e, Body: []byte{0x0f, 0x10, 0x11}}
}

// frameBytes are the bytes of frame.
const frameBytes = "\x01\x02\x03\x04\x05\x06\x07\x08\x09\x0a\x0b\x0c\x0d\x0e\x0f\x10\x11"

// body is a body of n bytes, of which those beside each other are unlike.
func body(n int) []byte {
	b := make([]byte, n)
	for i := range b {
		b[i] = byte(i*7 + i>>8 + 1)
	}
	return b
}

// some are frames that may be: with each edge of each field, and with each bit of each number.
func some() []api.Frame {
	l := []api.Frame{
		frame(),
		{},
		{Body: []byte{}},
		{Body: []byte{0}},
		{Dst: mac.Broadcast, Src: 1, Type: ether.IPv4, Body: []byte("a")},
		{Dst: 0x010203040506, Src: 0x0708090a0b0c, Type: ether.Tagged, Body: []byte{0, 10, 8, 0, 1, 2}},
		{Dst: mac.Broadcast, Src: mac.Broadcast, Type: 65535, Body: bytes.Repeat([]byte{255}, 1504)},
		{Dst: 1, Src: mac.Broadcast - 1, Type: 65534},
	}
	for i := range 48 {
		l = append(l, api.Frame{Dst: 1 << i, Src: 5}, api.Frame{Dst: 5, Src: 1 << i})
	}
	for i := range 16 {
		l = append(l, api.Frame{Type: 1 << i, Body: body(i)})
	}
	for _, n := range []int{1, 2, 45, 46, 47, 255, 256, 257, 1499, 1500, 1501, 1503, 1504} {
		l = append(l, api.Frame{Dst: 2, Src: 3, Type: n, Body: body(n)})
	}
	return l
}

// written is what the bytes of f are by the chapter's words.
func written(f api.Frame) []byte {
	var b []byte
	for _, m := range []uint64{f.Dst, f.Src} {
		b = append(b, byte(m>>40), byte(m>>32), byte(m>>24), byte(m>>16), byte(m>>8), byte(m))
	}
	return append(append(b, byte(f.Type/256), byte(f.Type%256)), f.Body...)
}

// alike tells whether f and g have the same numbers, and the same bytes, without a word of the package.
func alike(f, g api.Frame) bool {
	return f.Dst == g.Dst && f.Src == g.Src && f.Type == g.Type && string(f.Body) == string(g.Body)
}

// none tells whether f is the zero value of a frame.
func none(f api.Frame) bool { return reflect.ValueOf(f).IsZero() }

func TestTypes(t *testing.T) {
	if ether.Tagged != 0x8100 || ether.IPv4 != 0x0800 {
		t.Errorf("Tagged %#x, IPv4 %#x", ether.Tagged, ether.IPv4)
	}
}

// P4.1

func TestTakeTakesEachPart(t *testing.T) {
	for s, want := range map[string]api.Frame{
		frameBytes: frame(),
		"\xff\xff\xff\xff\xff\xff\x00\x00\x00\x00\x00\x01\x08\x00a": {Dst: mac.Broadcast, Src: 1, Type: 2048, Body: []byte("a")},
		"\x00\x00\x00\x00\x00\x00\x00\x00\x00\x00\x00\x00\x00\x00":  {},
		"\xff\xff\xff\xff\xff\xff\xff\xff\xff\xff\xff\xff\xff\xff":  {Dst: mac.Broadcast, Src: mac.Broadcast, Type: 65535},
		"\x01\x00\x00\x00\x00\x02\x03\x00\x00\x00\x00\x04\x81\x00\x00\x0a\x08\x00": {
			Dst: 0x010000000002, Src: 0x030000000004, Type: ether.Tagged, Body: []byte{0, 10, 8, 0}},
	} {
		got, e := ether.Take([]byte(s))
		if e != api.OK || !alike(got, want) {
			t.Errorf("Take(%x) = %x, %d", s, got, e)
		}
	}
}

// Each byte alone tells which number it goes to, and which bits of it.
func TestTakePutsEachByteInItsPlace(t *testing.T) {
	for at := range 20 {
		b := make([]byte, 20)
		b[at] = 0x81
		want := api.Frame{Body: make([]byte, 6)}
		switch {
		case at < 6:
			want.Dst = 0x81 << (8 * (5 - at))
		case at < 12:
			want.Src = 0x81 << (8 * (11 - at))
		case at < 14:
			want.Type = 0x81 << (8 * (13 - at))
		default:
			want.Body[at-14] = 0x81
		}
		if got, e := ether.Take(b); e != api.OK || !alike(got, want) {
			t.Errorf("Take of %x = %x, %d", b, got, e)
		}
	}
}

func TestTakeOfEachLength(t *testing.T) {
	room := body(4000) // what lies behind the bytes in their memory is not read
	for n := range 1600 {
		want := api.OK
		if n < 14 {
			want = api.ErrShort
		}
		if n > 1518 {
			want = api.ErrLong
		}
		got, e := ether.Take(room[:n])
		if e != want {
			t.Errorf("Take of %d bytes: %d", n, e)
		}
		if e != api.OK && !none(got) {
			t.Errorf("Take of %d bytes: %x beside an error", n, got)
		}
		if e == api.OK && !bytes.Equal(got.Body, room[14:n]) {
			t.Errorf("Take of %d bytes: a body of %d", n, len(got.Body))
		}
	}
	for _, n := range []int{1519, 2000, 4000, 1 << 16, 1<<16 + 14, 1 << 20} {
		if got, e := ether.Take(make([]byte, n)); e != api.ErrLong || !none(got) {
			t.Errorf("Take of %d bytes: %x, %d", n, got, e)
		}
	}
}

func TestTakeOfNothing(t *testing.T) {
	for _, b := range [][]byte{nil, {}, make([]byte, 0, 100)} {
		if got, e := ether.Take(b); e != api.ErrShort || !none(got) {
			t.Errorf("Take of no bytes: %x, %d", got, e)
		}
	}
}

// P4.2

func TestPutPutsEachPart(t *testing.T) {
	if got, e := ether.Put(api.Frame{Dst: mac.Broadcast, Src: 1, Type: 2048, Body: []byte("a")}); e != api.OK ||
		string(got) != "\xff\xff\xff\xff\xff\xff\x00\x00\x00\x00\x00\x01\x08\x00\x61" {
		t.Errorf("Put of the chapter's example: %x, %d", got, e)
	}
	if got, e := ether.Put(frame()); e != api.OK || string(got) != frameBytes {
		t.Errorf("Put of unlike bytes: %x, %d", got, e)
	}
	for _, f := range some() {
		if got, e := ether.Put(f); e != api.OK || !bytes.Equal(got, written(f)) {
			t.Errorf("Put(%x) = %x, %d", f, got, e)
		}
	}
}

func TestPutOfNoBody(t *testing.T) {
	for _, b := range [][]byte{nil, {}, make([]byte, 0, 2000)} {
		got, e := ether.Put(api.Frame{Dst: 1, Src: 2, Type: 3, Body: b})
		if e != api.OK || string(got) != "\x00\x00\x00\x00\x00\x01\x00\x00\x00\x00\x00\x02\x00\x03" {
			t.Errorf("Put without a body: %x, %d", got, e)
		}
	}
}

func TestPutOfAddressesBeyond48Bits(t *testing.T) {
	for _, m := range []uint64{0, 1, 1 << 47, mac.Broadcast - 1, mac.Broadcast} {
		for _, f := range []api.Frame{{Dst: m}, {Src: m}, {Dst: m, Src: m}} {
			if got, e := ether.Put(f); e != api.OK || !bytes.Equal(got, written(f)) {
				t.Errorf("Put(%x) = %x, %d", f, got, e)
			}
		}
	}
	wrong := []uint64{mac.Broadcast + 1, mac.Broadcast + 2, 1<<49 - 1, math.MaxInt64, math.MaxInt64 + 1, math.MaxUint64}
	for i := 48; i < 64; i++ {
		wrong = append(wrong, 1<<i, 1<<i|5)
	}
	for _, m := range wrong {
		for _, f := range []api.Frame{{Dst: m}, {Src: m}, {Dst: m, Src: m}, {Dst: mac.Broadcast, Src: m}, {Dst: m, Src: 1, Type: 2048, Body: body(9)}} {
			if got, e := ether.Put(f); e != api.ErrForm || got != nil {
				t.Errorf("Put(%x) = %x, %d", f, got, e)
			}
		}
	}
}

func TestPutOfTypes(t *testing.T) {
	for _, n := range []int{0, 1, 255, 256, ether.IPv4, ether.Tagged, 65534, 65535} {
		f := api.Frame{Type: n, Body: []byte{7}}
		if got, e := ether.Put(f); e != api.OK || !bytes.Equal(got, written(f)) {
			t.Errorf("Put of the Type %d: %x, %d", n, got, e)
		}
	}
	for _, n := range []int{-1, -2, -256, -65536, 65536, 65537, 65536 + 2048, 1 << 20, math.MaxInt32, math.MinInt32, 1 << 32, math.MaxInt, math.MinInt} {
		for _, f := range []api.Frame{{Type: n}, {Dst: 1, Src: 2, Type: n, Body: body(9)}} {
			if got, e := ether.Put(f); e != api.ErrForm || got != nil {
				t.Errorf("Put(%x) = %x, %d", f, got, e)
			}
		}
	}
}

func TestPutOfEachLength(t *testing.T) {
	room := body(4000) // what lies behind the body in its memory is not put
	for n := range 1600 {
		f := api.Frame{Dst: 1, Src: 2, Type: 3, Body: room[:n]}
		got, e := ether.Put(f)
		if n <= 1504 && (e != api.OK || !bytes.Equal(got, written(f))) {
			t.Errorf("Put of a body of %d bytes: %x, %d", n, got, e)
		}
		if n > 1504 && (e != api.ErrLong || got != nil) {
			t.Errorf("Put of a body of %d bytes: %x, %d", n, got, e)
		}
	}
	for _, n := range []int{1518, 1519, 4000, 1 << 16, 1<<16 + 1, 1 << 20} {
		if got, e := ether.Put(api.Frame{Body: make([]byte, n)}); e != api.ErrLong || got != nil {
			t.Errorf("Put of a body of %d bytes: %x, %d", n, got, e)
		}
	}
}

// The form is asked ahead of the length.
func TestPutOfTwoFaults(t *testing.T) {
	for _, f := range []api.Frame{{Dst: 1 << 48}, {Src: 1 << 48}, {Type: -1}, {Type: 65536}} {
		f.Body = make([]byte, 1505)
		if got, e := ether.Put(f); e != api.ErrForm || got != nil {
			t.Errorf("Put of two faults: %x, %d", got, e)
		}
	}
}

// P4.3

// unlike are frames that are unlike frame in one thing alone.
func unlike() []api.Frame {
	var l []api.Frame
	for i := range 64 {
		for _, change := range []func(f *api.Frame){
			func(f *api.Frame) { f.Dst ^= 1 << i },
			func(f *api.Frame) { f.Src ^= 1 << i },
			func(f *api.Frame) { f.Type ^= 1 << i },
		} {
			f := frame()
			change(&f)
			l = append(l, f)
		}
	}
	for at := range frame().Body {
		for i := range 8 {
			f := frame()
			f.Body[at] ^= 1 << i
			l = append(l, f)
		}
	}
	for _, b := range []string{"", "\x0f", "\x0f\x10", "\x10\x11", "\x0f\x10\x11\x00", "\x00\x0f\x10\x11", "\x0f\x10\x11\x12", "\x11\x10\x0f"} {
		f := frame()
		f.Body = []byte(b)
		l = append(l, f)
	}
	return l
}

func TestSameOfAlikes(t *testing.T) {
	for _, f := range append(some(), unlike()...) {
		g := f
		g.Body = append([]byte(nil), f.Body...)
		if !ether.Same(f, g) || !ether.Same(g, f) || !ether.Same(f, f) {
			t.Errorf("%x and the like are not the same", f)
		}
	}
}

func TestSameOfUnlikes(t *testing.T) {
	for _, f := range unlike() {
		if ether.Same(f, frame()) || ether.Same(frame(), f) {
			t.Errorf("%x and %x are the same", f, frame())
		}
	}
	swapped := frame()
	swapped.Dst, swapped.Src = swapped.Src, swapped.Dst
	if ether.Same(swapped, frame()) || ether.Same(api.Frame{}, frame()) {
		t.Error("a frame is the same as one with its addresses swapped, or as none")
	}
	l := some()
	for i, f := range l {
		for j, g := range l {
			if got := ether.Same(f, g); got != alike(f, g) {
				t.Errorf("Same of frames %d and %d: %v", i, j, got)
			}
		}
	}
}

// A body without a byte is nil, or empty, or has spare room: that is all the same.
func TestSameOfNoBodies(t *testing.T) {
	bodies := [][]byte{nil, {}, make([]byte, 0, 9), body(9)[:0]}
	for _, a := range bodies {
		for _, b := range bodies {
			if !ether.Same(api.Frame{Dst: 1, Src: 2, Type: 3, Body: a}, api.Frame{Dst: 1, Src: 2, Type: 3, Body: b}) {
				t.Error("frames without a body are not the same")
			}
		}
		if ether.Same(api.Frame{Body: a}, api.Frame{Body: []byte{0}}) {
			t.Error("no body is the same as a byte 0")
		}
	}
}

// What lies behind a body's length plays no part.
func TestSameOfSpareRooms(t *testing.T) {
	if !ether.Same(api.Frame{Body: []byte("abc")[:2]}, api.Frame{Body: []byte("abd")[:2]}) {
		t.Error("spare rooms tell alike frames apart")
	}
}

// A frame that Put refuses is copied as well.
func TestCopyIsTheSame(t *testing.T) {
	l := append(some(), unlike()...)
	l = append(l,
		api.Frame{Dst: math.MaxUint64, Src: math.MaxUint64, Type: math.MinInt, Body: body(1505)},
		api.Frame{Dst: 1 << 48, Src: 1 << 63, Type: math.MaxInt, Body: body(1 << 16)},
		api.Frame{Type: -1},
	)
	for _, f := range l {
		if got := ether.Copy(f); !alike(got, f) {
			t.Errorf("Copy(%x) = %x", f, got)
		}
	}
	for _, b := range [][]byte{nil, {}, make([]byte, 0, 9)} {
		if got := ether.Copy(api.Frame{Dst: 1, Src: 2, Type: 3, Body: b}); !alike(got, api.Frame{Dst: 1, Src: 2, Type: 3}) {
			t.Errorf("Copy without a body: %x", got)
		}
	}
}

// Memory of its own (P4.1, P4.2, P4.3)

// spoil writes over all of a list's memory, spare room too.
func spoil(b []byte) {
	b = b[:cap(b)]
	for i := range b {
		b[i] ^= 0xff
	}
}

// within is a body of n bytes in the midst of a memory of its own.
func within(n int) (b, room []byte) {
	room = body(n + 40)
	return room[20 : 20+n], room
}

var lengths = []int{0, 1, 2, 3, 8, 31, 32, 33, 1503, 1504}

func TestCopyHasItsOwnMemory(t *testing.T) {
	for _, n := range lengths {
		b, room := within(n)
		f := api.Frame{Dst: 1, Src: 2, Type: 3, Body: b}
		want, all := string(b), string(room)
		first, second := ether.Copy(f), ether.Copy(f)
		spoil(first.Body)
		if string(room) != all || string(second.Body) != want {
			t.Errorf("what is written into a copy of %d bytes is seen elsewhere", n)
		}
		spoil(room)
		if string(second.Body) != want {
			t.Errorf("what is written into a frame of %d bytes is seen in its copy", n)
		}
	}
}

func TestPutHasItsOwnMemory(t *testing.T) {
	for _, n := range lengths {
		b, room := within(n)
		f := api.Frame{Dst: 1, Src: 2, Type: 3, Body: b}
		want, all := string(written(f)), string(room)
		first, _ := ether.Put(f)
		second, _ := ether.Put(f)
		spoil(first)
		if string(room) != all || string(second) != want {
			t.Errorf("what is written into the bytes of a body of %d is seen elsewhere", n)
		}
		spoil(room)
		if string(second) != want {
			t.Errorf("what is written into a body of %d bytes is seen in its bytes", n)
		}
	}
}

func TestTakeHasItsOwnMemory(t *testing.T) {
	for _, n := range lengths {
		b, room := within(14 + n)
		want, all := string(b[14:]), string(room)
		kind := int(b[12])<<8 | int(b[13])
		first, _ := ether.Take(b)
		second, _ := ether.Take(b)
		spoil(first.Body)
		if string(room) != all || string(second.Body) != want {
			t.Errorf("what is written into a body of %d bytes that was taken is seen elsewhere", n)
		}
		spoil(room)
		if string(second.Body) != want || second.Type != kind {
			t.Errorf("what is written into bytes with a body of %d is seen in the frame of them", n)
		}
	}
}

// What lies behind what is handed in is not handed out.
func TestSpareRoomIsNotHandedOut(t *testing.T) {
	for _, n := range lengths {
		room := bytes.Repeat([]byte{0xee}, 4000)
		copied := ether.Copy(api.Frame{Body: room[:n]})
		put, _ := ether.Put(api.Frame{Body: room[:n]})
		taken, _ := ether.Take(room[:14+n])
		for _, b := range [][]byte{copied.Body, put, taken.Body} {
			if bytes.IndexByte(b[len(b):cap(b)], 0xee) >= 0 {
				t.Errorf("%d bytes with what lay behind them", n)
			}
		}
	}
}

// What is refused leaves what it was given as well.
func TestWhatIsHandedInStays(t *testing.T) {
	for _, n := range []int{0, 13, 14, 100, 1504, 1505, 1518, 1519} {
		b, room := within(n)
		all := string(room)
		f := api.Frame{Dst: 1, Src: 2, Type: 3, Body: b}
		ether.Take(b)
		ether.Put(f)
		ether.Put(api.Frame{Type: -1, Body: b})
		ether.Copy(f)
		ether.Same(f, f)
		if string(room) != all {
			t.Errorf("a call wrote to the %d bytes that it was handed", n)
		}
	}
}

// P4.4

func TestFramesAreTheirBytes(t *testing.T) {
	for _, f := range some() {
		b, e := ether.Put(f)
		if e != api.OK {
			t.Errorf("Put(%x): %d", f, e)
			continue
		}
		if got, e := ether.Take(b); e != api.OK || !alike(got, f) || !ether.Same(got, f) {
			t.Errorf("Take(Put(%x)) = %x, %d", f, got, e)
		}
	}
}

func TestBytesAreTheirFrames(t *testing.T) {
	for n := 14; n <= 1518; n++ {
		b := body(n)
		f, e := ether.Take(b)
		if e != api.OK {
			t.Errorf("Take of %d bytes: %d", n, e)
			continue
		}
		if got, e := ether.Put(f); e != api.OK || !bytes.Equal(got, b) {
			t.Errorf("Put(Take(%x)) = %x, %d", b, got, e)
		}
	}
	for at := range 15 {
		for v := range 256 {
			b := []byte(frameBytes)
			b[at] = byte(v)
			f, _ := ether.Take(b)
			if got, e := ether.Put(f); e != api.OK || !bytes.Equal(got, b) {
				t.Errorf("Put(Take(%x)) = %x, %d", b, got, e)
			}
		}
	}
}

// Frames that are unlike have unlike bytes, and bytes that are unlike have unlike frames.
func TestUnlikeFramesHaveUnlikeBytes(t *testing.T) {
	of := map[string]api.Frame{}
	for _, f := range append(some(), unlike()...) {
		b, e := ether.Put(f)
		if e != api.OK {
			continue
		}
		if g, ok := of[string(b)]; ok && !ether.Same(f, g) {
			t.Errorf("%x and %x have the same bytes", f, g)
		}
		of[string(b)] = f
	}
	if len(of) < 200 {
		t.Errorf("only %d frames were put", len(of))
	}
}
