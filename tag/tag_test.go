package tag_test

import (
	"bytes"
	"math"
	"reflect"
	"testing"

	"paling/api"
	"paling/ether"
	"paling/mac"
	"paling/tag"
)

// body is a body of n bytes, of which those beside each other are unlike.
func body(n int) []byte {
	b := make([]byte, n)
	for i := range b {
		b[i] = byte(i*7 + i>>8 + 1)
	}
	return b
}

// with is a frame of a Type and a Body, whose addresses are unlike each other.
func with(kind int, b []byte) api.Frame {
	return api.Frame{Dst: 0x010203040506, Src: 0x0708090a0b0c, Type: kind, Body: b}
}

// bare is a frame that a tag can be put on.
func bare() api.Frame { return with(ether.IPv4, []byte("xy")) }

// laid is the body of the chapter's words: sixteen bits of priority and VID, a type, and what was there.
func laid(vid, prio, kind int, rest []byte) []byte {
	bits := prio*4096 + vid
	return append([]byte{byte(bits / 256), byte(bits % 256), byte(kind / 256), byte(kind % 256)}, rest...)
}

// alike tells whether f and g have the same numbers, and the same bytes, without a word of the program.
func alike(f, g api.Frame) bool {
	return f.Dst == g.Dst && f.Src == g.Src && f.Type == g.Type && string(f.Body) == string(g.Body)
}

// none tells whether f is the zero value of a frame.
func none(f api.Frame) bool { return reflect.ValueOf(f).IsZero() }

// stripped asks that Strip of f answers the frame want with vid and prio.
func stripped(t *testing.T, f, want api.Frame, vid, prio int) {
	t.Helper()
	if g, v, p, e := tag.Strip(f); e != api.OK || v != vid || p != prio || !alike(g, want) {
		t.Errorf("Strip(%x) = %x, %d, %d, %d", f, g, v, p, e)
	}
}

// notStripped asks that Strip of f answers an error and nothing else.
func notStripped(t *testing.T, f api.Frame, want api.Errno) {
	t.Helper()
	if g, v, p, e := tag.Strip(f); e != want || v != 0 || p != 0 || !none(g) {
		t.Errorf("Strip(%x) = %x, %d, %d, %d, not error %d", f, g, v, p, e, want)
	}
}

// added asks that Add answers the tagged frame of the chapter's words.
func added(t *testing.T, f api.Frame, vid, prio int) {
	t.Helper()
	want := api.Frame{Dst: f.Dst, Src: f.Src, Type: 0x8100, Body: laid(vid, prio, f.Type, f.Body)}
	if g, e := tag.Add(f, vid, prio); e != api.OK || !alike(g, want) {
		t.Errorf("Add(%x, %d, %d) = %x, %d", f, vid, prio, g, e)
	}
}

// notAdded asks that Add answers an error and nothing else.
func notAdded(t *testing.T, f api.Frame, vid, prio int, want api.Errno) {
	t.Helper()
	if g, e := tag.Add(f, vid, prio); e != want || !none(g) {
		t.Errorf("Add(%x, %d, %d) = %x, %d, not error %d", f, vid, prio, g, e, want)
	}
}

// far are numbers far from every edge of the chapter, some of which have right lowest bits.
var far = []int{math.MinInt, math.MinInt + 1, math.MinInt32, -65536 + 1, -65536, -4096, -4095, -256, -2,
	65537, 65536 + 2048, 1 << 20, math.MaxInt32, 1 << 32, 1<<32 + 1, math.MaxInt - 1, math.MaxInt}

// P5.1

func TestIsOfEachType(t *testing.T) {
	for kind := -70000; kind <= 140000; kind++ {
		if got := tag.Is(api.Frame{Type: kind}); got != (kind == 33024) {
			t.Errorf("Is of the Type %d: %v", kind, got)
		}
	}
	for _, kind := range append([]int{1<<16 + 0x8100, 1<<32 + 0x8100, math.MinInt + 0x8100, -0x8100, ^0x8100, 0x0081, 0x88a8}, far...) {
		if tag.Is(api.Frame{Type: kind}) {
			t.Errorf("Is of the Type %d", kind)
		}
	}
}

// The Type alone tells it: neither a body nor an address has a part in it.
func TestIsAsksTheTypeAlone(t *testing.T) {
	for _, b := range [][]byte{nil, {}, {1}, {0x81, 0}, {0, 10, 8}, {0, 10, 8, 0}, {0x0f, 0xff, 0x81, 0}, body(1504), body(1505)} {
		for _, m := range []uint64{0, 1, mac.Broadcast, mac.Broadcast + 1, math.MaxUint64} {
			if !tag.Is(api.Frame{Dst: m, Src: m, Type: 0x8100, Body: b}) {
				t.Errorf("Is not, with the body %x", b)
			}
			if tag.Is(api.Frame{Dst: m, Src: m, Type: 0x0800, Body: b}) || tag.Is(api.Frame{Dst: m, Src: m, Body: b}) {
				t.Errorf("Is of no tagged frame, with the body %x", b)
			}
		}
	}
}

func TestStripOfTheExample(t *testing.T) {
	stripped(t, with(0x8100, []byte{0, 0x0a, 8, 0, 'o', 'w', 'n'}), with(2048, []byte("own")), 10, 0)
	stripped(t, with(0x8100, []byte("\x9f\xfe\x08\x00xy")), bare(), 4094, 9)
}

// Each bit of the tag and of the type alone tells which number it goes to.
func TestStripPutsEachBitInItsPlace(t *testing.T) {
	for i := range 16 {
		bits := 1 << i
		vid, prio := bits%4096, bits/4096
		stripped(t, with(0x8100, []byte{byte(bits >> 8), byte(bits), 0, 0}), with(0, nil), vid, prio)
		stripped(t, with(0x8100, []byte{0, 0, byte(bits >> 8), byte(bits)}), with(bits, nil), 0, 0)
	}
	stripped(t, with(0x8100, []byte{0xff, 0xfe, 0xff, 0xff, 0xff}), with(65535, []byte{0xff}), 4094, 15)
}

func TestStripOfEachTag(t *testing.T) {
	for prio := range 16 {
		for vid := range 4096 {
			f := with(0x8100, laid(vid, prio, 2048, []byte("xyz")))
			if vid == 4095 {
				notStripped(t, f, api.ErrTag)
			} else {
				stripped(t, f, with(2048, []byte("xyz")), vid, prio)
			}
		}
	}
}

func TestStripOfEachInnerType(t *testing.T) {
	for kind := range 1 << 16 {
		f := with(0x8100, laid(10, 3, kind, []byte("x")))
		if kind == 0x8100 {
			notStripped(t, f, api.ErrTag)
		} else {
			stripped(t, f, with(kind, []byte("x")), 10, 3)
		}
	}
}

func TestStripOfNoTaggedFrame(t *testing.T) {
	kinds := append([]int{-1, 0, 1, 2048, 0x80ff, 0x8101, 0x0081, 0x0100, 0x8000, 0x88a8, 65535, 65536, 65536 + 0x8100, 1<<32 + 0x8100, -0x8100}, far...)
	for _, kind := range kinds {
		// Were they tagged frames, some would be too short, and some have a wrong tag.
		for _, b := range [][]byte{nil, {}, {0, 10, 8}, {0, 10, 8, 0}, {0x0f, 0xff, 8, 0}, {0, 10, 0x81, 0}} {
			notStripped(t, with(kind, b), api.ErrForm)
		}
	}
}

func TestStripOfEachLength(t *testing.T) {
	room := body(2000)
	copy(room, laid(7, 5, 2048, nil)) // what lies behind the body in its memory is not read
	for n := range 1600 {
		if n < 4 {
			notStripped(t, with(0x8100, room[:n]), api.ErrShort)
		} else {
			stripped(t, with(0x8100, room[:n]), with(2048, room[4:n]), 7, 5)
		}
	}
	for _, b := range [][]byte{nil, {}, make([]byte, 0, 9), {0x0f}, {0x0f, 0xff}, {0x0f, 0xff, 0x81}} {
		notStripped(t, with(0x8100, b), api.ErrShort)
	}
}

// A wrong tag is one with nothing behind it, too.
func TestStripOfWrongTags(t *testing.T) {
	for _, rest := range []string{"", "x", "\x00\x0a\x08\x00"} {
		for _, head := range []string{"\x0f\xff\x08\x00", "\xff\xff\x00\x00", "\x00\x0a\x81\x00", "\x00\x00\x81\x00", "\xff\xfe\x81\x00"} {
			notStripped(t, with(0x8100, []byte(head+rest)), api.ErrTag)
		}
	}
}

func TestStripOfTwoFaults(t *testing.T) {
	notStripped(t, with(0x8100, []byte{0x0f, 0xff, 0x81, 0}), api.ErrTag)
	notStripped(t, with(0x8100, []byte{0xff, 0xff, 0x81, 0, 1, 2}), api.ErrTag)
}

// What a chapter does not ask is left as it is: the addresses, be they what they may.
func TestAddressesStay(t *testing.T) {
	for _, m := range []uint64{0, 1, mac.Broadcast, mac.Broadcast + 1, math.MaxUint64} {
		for _, n := range []uint64{0, 2, mac.Broadcast, math.MaxUint64 - 1} {
			f := api.Frame{Dst: m, Src: n, Type: 2048, Body: []byte("xy")}
			added(t, f, 10, 1)
			stripped(t, api.Frame{Dst: m, Src: n, Type: 0x8100, Body: laid(10, 1, 2048, []byte("xy"))}, f, 10, 1)
		}
	}
}

// P5.2

func TestAddOfTheExample(t *testing.T) {
	g, e := tag.Add(with(2048, []byte("own")), 10, 0)
	if e != api.OK || !alike(g, with(0x8100, []byte{0, 0x0a, 8, 0, 'o', 'w', 'n'})) {
		t.Errorf("Add of the chapter's example: %x, %d", g, e)
	}
}

func TestAddOfEachVidAndPriority(t *testing.T) {
	for prio := -3; prio < 20; prio++ {
		for vid := -3; vid < 4100; vid++ {
			if vid < 0 || vid > 4094 || prio < 0 || prio > 15 {
				notAdded(t, bare(), vid, prio, api.ErrTag)
			} else {
				added(t, bare(), vid, prio)
			}
		}
	}
	for _, n := range far {
		notAdded(t, bare(), n, 0, api.ErrTag)
		notAdded(t, bare(), 1, n, api.ErrTag)
		notAdded(t, bare(), n, n, api.ErrTag)
	}
	for _, n := range []int{4095, 4096, 8192, 65535, 65536} {
		notAdded(t, bare(), n, 0, api.ErrTag)
		notAdded(t, bare(), 1, n, api.ErrTag)
	}
}

func TestAddOfEachType(t *testing.T) {
	for kind := -3; kind < 65540; kind++ {
		f := with(kind, []byte("x"))
		switch {
		case kind == 0x8100:
			notAdded(t, f, 10, 0, api.ErrTag)
		case kind < 0 || kind > 65535:
			notAdded(t, f, 10, 0, api.ErrForm)
		default:
			added(t, f, 10, 0)
		}
	}
	for _, kind := range append([]int{65536 + 0x8100, 1<<32 + 0x8100, -0x8100}, far...) {
		notAdded(t, with(kind, nil), 10, 0, api.ErrForm)
	}
}

func TestAddOfEachLength(t *testing.T) {
	room := body(2000) // what lies behind the body in its memory is not put
	for n := range 1600 {
		if n <= 1500 {
			added(t, with(2048, room[:n]), 4094, 15)
		} else {
			notAdded(t, with(2048, room[:n]), 4094, 15, api.ErrLong)
		}
	}
	for _, n := range []int{2000, 1 << 16, 1<<16 + 1, 1 << 20} {
		notAdded(t, with(2048, make([]byte, n)), 1, 1, api.ErrLong)
	}
	for _, b := range [][]byte{nil, {}, make([]byte, 0, 9)} {
		added(t, with(2048, b), 0, 0)
	}
}

// A wrong tag is told ahead of a wrong Type, and a wrong Type ahead of a long body.
func TestAddOfSeveralFaults(t *testing.T) {
	long := make([]byte, 1501)
	for _, tagged := range []api.Frame{with(0x8100, nil), with(0x8100, laid(1, 0, 2048, nil)), with(0x8100, long)} {
		notAdded(t, tagged, 1, 0, api.ErrTag)
		notAdded(t, tagged, 4095, 16, api.ErrTag)
	}
	for _, kind := range []int{-1, 65536} {
		notAdded(t, with(kind, nil), -1, 0, api.ErrTag)
		notAdded(t, with(kind, nil), 4095, 0, api.ErrTag)
		notAdded(t, with(kind, nil), 1, -1, api.ErrTag)
		notAdded(t, with(kind, nil), 1, 16, api.ErrTag)
		notAdded(t, with(kind, long), 4095, 0, api.ErrTag)
		notAdded(t, with(kind, long), 1, 0, api.ErrForm)
	}
	notAdded(t, with(2048, long), 4095, 0, api.ErrTag)
	notAdded(t, with(2048, long), -1, 0, api.ErrTag)
	notAdded(t, with(2048, long), 1, 16, api.ErrTag)
	notAdded(t, with(2048, long), 1, -1, api.ErrTag)
}

// P5.3

func TestWhatIsAddedIsStripped(t *testing.T) {
	for _, n := range []int{0, 1, 2, 3, 4, 5, 46, 255, 256, 1499, 1500} {
		for _, kind := range []int{0, 1, 255, 256, 2048, 0x80ff, 0x8101, 65534, 65535} {
			for _, vid := range []int{0, 1, 10, 255, 256, 2048, 4093, 4094} {
				for prio := range 16 {
					f := with(kind, body(n))
					g, e := tag.Add(f, vid, prio)
					if e != api.OK || !tag.Is(g) {
						t.Errorf("Add(%x, %d, %d): %d", f, vid, prio, e)
					}
					stripped(t, g, f, vid, prio)
					if b, e := ether.Put(g); e != api.OK || len(b) != 18+n {
						t.Errorf("a tagged frame with a body of %d bytes is put as %d: %d", n, len(b), e)
					}
				}
			}
		}
	}
}

func TestWhatIsStrippedIsAddedAsItWas(t *testing.T) {
	for n := 4; n <= 1504; n++ {
		f := with(0x8100, body(n))
		f.Body[0], f.Body[1] = byte(n*5), byte(n%255)
		g, vid, prio, e := tag.Strip(f)
		if e != api.OK {
			t.Errorf("Strip(%x): %d", f, e)
			continue
		}
		if h, e := tag.Add(g, vid, prio); e != api.OK || !alike(h, f) {
			t.Errorf("Add(Strip(%x)) = %x, %d", f, h, e)
		}
	}
	for bits := range 1 << 16 {
		f := with(0x8100, []byte{byte(bits >> 8), byte(bits), 8, 0})
		if bits%4096 == 4095 {
			continue // of such a frame there is none without its tag
		}
		g, vid, prio, e := tag.Strip(f)
		if e != api.OK {
			t.Errorf("Strip(%x): %d", f, e)
		}
		if h, e := tag.Add(g, vid, prio); e != api.OK || !alike(h, f) {
			t.Errorf("Add(Strip(%x)) = %x, %d", f, h, e)
		}
	}
}

// Memory of its own (P5.1, P5.2)

// spoil writes over all of a list's memory, spare room too.
func spoil(b []byte) {
	b = b[:cap(b)]
	for i := range b {
		b[i] ^= 0xff
	}
}

// within is a body of n bytes in the midst of a memory of its own.
func within(n int) (b, room []byte) {
	room = body(n + 40)
	return room[20 : 20+n], room
}

var lengths = []int{0, 1, 2, 3, 4, 5, 12, 28, 31, 32, 33, 1496, 1499, 1500}

func TestStripHasItsOwnMemory(t *testing.T) {
	for _, n := range lengths {
		b, room := within(4 + n)
		copy(b, laid(10, 3, 2048, nil))
		f := with(0x8100, b)
		all, want := string(room), with(2048, []byte(string(b[4:])))
		first, _, _, _ := tag.Strip(f)
		second, _, _, _ := tag.Strip(f)
		spoil(first.Body)
		if string(room) != all || !alike(second, want) {
			t.Errorf("what is written into a frame that was stripped, of %d bytes, is seen elsewhere", n)
		}
		spoil(room)
		if !alike(second, want) {
			t.Errorf("what is written into a tagged frame, of %d bytes, is seen in the one without a tag", n)
		}
	}
}

func TestAddHasItsOwnMemory(t *testing.T) {
	for _, n := range lengths {
		b, room := within(n)
		f := with(2048, b)
		all, want := string(room), with(0x8100, laid(10, 3, 2048, []byte(string(b))))
		first, _ := tag.Add(f, 10, 3)
		second, _ := tag.Add(f, 10, 3)
		spoil(first.Body)
		if string(room) != all || !alike(second, want) {
			t.Errorf("what is written into a tagged frame, of %d bytes, is seen elsewhere", n)
		}
		spoil(room)
		if !alike(second, want) {
			t.Errorf("what is written into a frame of %d bytes is seen in the tagged one", n)
		}
	}
}

// What lies behind what is handed in is not handed out.
func TestSpareRoomIsNotHandedOut(t *testing.T) {
	for _, n := range lengths {
		room := bytes.Repeat([]byte{0xee}, 4000)
		g, _ := tag.Add(with(2048, room[:n]), 10, 0)
		copy(room, laid(10, 0, 2048, nil))
		h, _, _, _ := tag.Strip(with(0x8100, room[:4+n]))
		for _, b := range [][]byte{g.Body, h.Body} {
			if bytes.IndexByte(b[len(b):cap(b)], 0xee) >= 0 {
				t.Errorf("%d bytes with what lay behind them", n)
			}
		}
	}
}

// What is refused leaves what it was given as well.
func TestWhatIsHandedInStays(t *testing.T) {
	for _, n := range []int{0, 3, 4, 5, 100, 1500, 1501, 1504, 1505} {
		for _, head := range []string{"", "\x30\x0a\x08\x00", "\x0f\xff\x08\x00", "\x00\x0a\x81\x00"} {
			b, room := within(n)
			copy(b, head)
			all := string(room)
			for _, kind := range []int{-1, 0, 2048, 0x8100, 65535, 65536} {
				f := with(kind, b)
				tag.Is(f)
				tag.Strip(f)
				tag.Add(f, 10, 3)
				tag.Add(f, 4095, 3)
				tag.Add(f, 10, 16)
				if string(room) != all || len(f.Body) != n || f.Type != kind {
					t.Errorf("a call wrote to the %d bytes that it was handed", n)
				}
			}
		}
	}
}
