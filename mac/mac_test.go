package mac_test

import (
	"bytes"
	"fmt"
	"math"
	"strings"
	"testing"

	"paling/mac"
)

// some are addresses in whose bytes each bit, and each byte, has a place of its own.
func some() []uint64 {
	l := []uint64{0, 1, 2748, 0x010203040506, 0xfedcba987654, mac.Broadcast, mac.Broadcast - 1}
	for i := range 48 {
		l = append(l, 1<<i, mac.Broadcast&^(1<<i))
	}
	for v := range uint64(256) {
		l = append(l, v<<40|(255-v)<<32|(v^0x5a)<<24|(v^0xa5)<<16|(v^0x0f)<<8|(v^0xf0))
	}
	return l
}

// above are numbers to lay above an address's 48 bits.
var above = []uint64{1, 1 << 15, 0x0200, 0xffff}

// P1.1

func TestTextWritesSixPairs(t *testing.T) {
	for _, c := range []struct {
		m    uint64
		want string
	}{
		{0, "00:00:00:00:00:00"},
		{2748, "00:00:00:00:0a:bc"},
		{0x0123456789ab, "01:23:45:67:89:ab"},
		{0xcdef00112233, "cd:ef:00:11:22:33"},
		{1 << 47, "80:00:00:00:00:00"},
		{mac.Broadcast, "ff:ff:ff:ff:ff:ff"},
	} {
		if got := mac.Text(c.m); got != c.want {
			t.Errorf("Text(%#x) = %q, not %q", c.m, got, c.want)
		}
	}
	for _, m := range some() {
		want := fmt.Sprintf("%02x:%02x:%02x:%02x:%02x:%02x", m>>40, m>>32&255, m>>24&255, m>>16&255, m>>8&255, m&255)
		if got := mac.Text(m); got != want {
			t.Errorf("Text(%#x) = %q, not %q", m, got, want)
		}
	}
}

func TestTextCountsTheLowest48Bits(t *testing.T) {
	for _, m := range some() {
		for _, a := range above {
			if got := mac.Text(a<<48 | m); got != mac.Text(m) {
				t.Errorf("Text(%#x) = %q", a<<48|m, got)
			}
		}
	}
	if got := mac.Text(math.MaxUint64); got != "ff:ff:ff:ff:ff:ff" {
		t.Errorf("Text of the greatest number: %q", got)
	}
}

func TestReadReadsTexts(t *testing.T) {
	for s, want := range map[string]uint64{
		"00:00:00:00:00:00": 0,
		"00:00:00:00:0a:bc": 2748,
		"01:23:45:67:89:ab": 0x0123456789ab,
		"cd:ef:00:11:22:33": 0xcdef00112233,
		"ff:ff:ff:ff:ff:ff": mac.Broadcast,
	} {
		if got, ok := mac.Read(s); !ok || got != want {
			t.Errorf("Read(%q) = %#x, %v", s, got, ok)
		}
	}
}

// Each byte of a text is put to each value: just those that a Text may have there are read.
func TestReadReadsNoOtherByte(t *testing.T) {
	const text = "01:23:45:67:89:ab"
	for at := range text {
		for c := range 256 {
			b := []byte(text)
			b[at] = byte(c)
			may := c >= '0' && c <= '9' || c >= 'a' && c <= 'f'
			if at%3 == 2 {
				may = c == ':'
			}
			got, ok := mac.Read(string(b))
			if ok != may {
				t.Errorf("Read(%q): %v", b, ok)
			}
			if !ok && got != 0 {
				t.Errorf("Read(%q): %#x beside false", b, got)
			}
			if ok && mac.Text(got) != string(b) {
				t.Errorf("Read(%q) = %#x", b, got)
			}
		}
	}
}

func TestReadReadsNoOtherForm(t *testing.T) {
	const text = "01:23:45:67:89:ab"
	wrong := []string{
		text + "0", text + ":", text + ":cd", text + " ", text + "\n", text + "\x00",
		"0" + text, ":" + text, " " + text, "cd:" + text, text + text,
		strings.ToUpper(text), "01:23:45:67:89:aB", "01-23-45-67-89-ab", "0123.4567.89ab", "0123456789ab", "0123456789ab00000",
		"1:23:45:67:89:ab", "1:2:3:4:5:6", "001:23:45:67:89:a", "01:234:5:67:89:ab", "01::23:45:67:89:a",
		"0x:23:45:67:89:ab", "+1:23:45:67:89:ab", "-1:23:45:67:89:ab", "01:23:45:67:89:١", "01:23:45:67:89:é", ":::::::::::::::::",
	}
	for i := range text {
		wrong = append(wrong, text[:i], text[i+1:], text[:i]+text[i+1:])
	}
	for _, s := range wrong {
		if got, ok := mac.Read(s); ok || got != 0 {
			t.Errorf("Read(%q) = %#x, %v", s, got, ok)
		}
	}
}

// P1.2

func TestGroupIsOneBit(t *testing.T) {
	for i := range 64 {
		if got := mac.Group(1 << i); got != (i == 40) {
			t.Errorf("Group of bit %d alone: %v", i, got)
		}
		if got := mac.Group(^(uint64(1) << i)); got != (i != 40) {
			t.Errorf("Group of all bits but %d: %v", i, got)
		}
	}
	if mac.Group(0) || !mac.Group(mac.Broadcast) || !mac.Group(math.MaxUint64) {
		t.Error("Group of no bit, or of all of them")
	}
}

// ips are addresses of 32 bits, the least and the greatest among them.
func ips() []uint32 {
	l := []uint32{0, 1, 0x0a000001, 0x01020304, 0xfffefdfc, math.MaxInt32, math.MaxUint32}
	for i := range 32 {
		l = append(l, 1<<i, ^(uint32(1) << i))
	}
	return l
}

func TestHostIsTwoBytesAndTheIp(t *testing.T) {
	for _, ip := range ips() {
		want := []byte{2, 0, byte(ip >> 24), byte(ip >> 16), byte(ip >> 8), byte(ip)}
		if got := mac.Put(nil, mac.Host(ip)); !bytes.Equal(got, want) {
			t.Errorf("Host(%#x): %x", ip, got)
		}
		if mac.Host(ip) > mac.Broadcast {
			t.Errorf("Host(%#x) has more than 48 bits", ip)
		}
	}
	if got := mac.Host(1); got != 0x020000000001 || mac.Text(got) != "02:00:00:00:00:01" {
		t.Errorf("Host(1) = %#x", got)
	}
	if got := mac.Host(math.MaxUint32); got != 0x0200ffffffff {
		t.Errorf("Host of the greatest ip: %#x", got)
	}
}

func TestIsHostTellsTheIp(t *testing.T) {
	for _, ip := range ips() {
		for _, a := range append([]uint64{0}, above...) {
			if got, ok := mac.IsHost(a<<48 | mac.Host(ip)); !ok || got != ip {
				t.Errorf("IsHost(%#x) = %#x, %v", a<<48|mac.Host(ip), got, ok)
			}
		}
	}
}

// Of all the values of the two highest bytes one is a host's.
func TestIsHostTellsNoOther(t *testing.T) {
	for head := range uint64(1 << 16) {
		for _, ip := range []uint64{0, 1, math.MaxUint32} {
			got, ok := mac.IsHost(head<<32 | ip)
			if ok != (head == 0x0200) {
				t.Fatalf("IsHost(%#x): %v", head<<32|ip, ok)
			}
			if !ok && got != 0 {
				t.Fatalf("IsHost(%#x): %#x beside false", head<<32|ip, got)
			}
		}
	}
	for _, m := range []uint64{mac.Broadcast, math.MaxUint64, 0x0200 << 48} {
		if got, ok := mac.IsHost(m); ok || got != 0 {
			t.Errorf("IsHost(%#x) = %#x, %v", m, got, ok)
		}
	}
}

// P1.3

func TestPutPutsSixBytesBehind(t *testing.T) {
	for _, b := range [][]byte{nil, {}, {9}, {1, 2, 3}, bytes.Repeat([]byte{7}, 1518)} {
		for _, m := range some() {
			want := append(bytes.Clone(b), byte(m>>40), byte(m>>32), byte(m>>24), byte(m>>16), byte(m>>8), byte(m))
			if got := mac.Put(b, m); !bytes.Equal(got, want) {
				t.Fatalf("Put(%x, %#x) = %x", b, m, got)
			}
			for _, a := range above {
				if got := mac.Put(b, a<<48|m); !bytes.Equal(got, want) {
					t.Fatalf("Put(%x, %#x) = %x", b, a<<48|m, got)
				}
			}
		}
	}
}

func TestPutLeavesWhatItIsHanded(t *testing.T) {
	room := []byte{1, 2, 3, 4, 5, 6, 7, 8, 9, 10, 11, 12}
	first := mac.Put(room[:2], 0xa1a2a3a4a5a6)
	second := mac.Put(room[:2], 0xb1b2b3b4b5b6)
	if string(room) != "\x01\x02\x03\x04\x05\x06\x07\x08\x09\x0a\x0b\x0c" {
		t.Errorf("Put wrote to what it was handed: %x", room)
	}
	if string(first) != "\x01\x02\xa1\xa2\xa3\xa4\xa5\xa6" || string(second) != "\x01\x02\xb1\xb2\xb3\xb4\xb5\xb6" {
		t.Errorf("two puts behind the same bytes: %x and %x", first, second)
	}
	first[0] = 99
	if room[0] != 1 || second[0] != 1 {
		t.Error("what Put answers is not new memory")
	}
}

func TestTakeTakesFromAtOn(t *testing.T) {
	b := []byte{1, 2, 3, 4, 5, 6, 0xff, 8}
	for at, want := range []uint64{0x010203040506, 0x0203040506ff, 0x03040506ff08} {
		if got, ok := mac.Take(b, at); !ok || got != want {
			t.Errorf("Take at %d: %#x, %v", at, got, ok)
		}
	}
	if got, ok := mac.Take(bytes.Repeat([]byte{0xff}, 6), 0); !ok || got != mac.Broadcast {
		t.Errorf("Take of six bytes: %#x, %v", got, ok)
	}
	if string(b) != "\x01\x02\x03\x04\x05\x06\xff\x08" {
		t.Errorf("Take wrote to what it was handed: %x", b)
	}
}

func TestTakeTakesNothingElse(t *testing.T) {
	whole := bytes.Repeat([]byte{0xff}, 40)
	for size := range 20 {
		b := whole[:size] // what lies behind it in its memory is not read
		for at := -10; at < 30; at++ {
			got, ok := mac.Take(b, at)
			if want := at >= 0 && at+6 <= size; ok != want || !ok && got != 0 {
				t.Errorf("Take of %d bytes at %d: %#x, %v", size, at, got, ok)
			}
		}
		for _, at := range []int{math.MinInt, math.MinInt + 1, math.MinInt32, math.MaxInt32, math.MaxInt - 6, math.MaxInt - 5, math.MaxInt} {
			if got, ok := mac.Take(b, at); ok || got != 0 {
				t.Errorf("Take of %d bytes at %d: %#x, %v", size, at, got, ok)
			}
		}
	}
	if got, ok := mac.Take(nil, 0); ok || got != 0 {
		t.Errorf("Take of nil: %#x, %v", got, ok)
	}
}

// P1.4

func TestWhatIsWrittenIsRead(t *testing.T) {
	for _, m := range some() {
		if got, ok := mac.Read(mac.Text(m)); !ok || got != m {
			t.Errorf("Read(Text(%#x)) = %#x, %v", m, got, ok)
		}
		for _, b := range [][]byte{nil, {0xff}, {1, 2, 3, 4, 5, 6, 7}} {
			if got, ok := mac.Take(mac.Put(b, m), len(b)); !ok || got != m {
				t.Errorf("Take of Put(%x, %#x) = %#x, %v", b, m, got, ok)
			}
		}
	}
	for _, m := range []uint64{1<<48 | 5, math.MaxUint64} {
		if got, ok := mac.Read(mac.Text(m)); !ok || got != m&mac.Broadcast {
			t.Errorf("Read(Text(%#x)) = %#x, %v", m, got, ok)
		}
		if got, ok := mac.Take(mac.Put(nil, m), 0); !ok || got != m&mac.Broadcast {
			t.Errorf("Take of Put(%#x) = %#x, %v", m, got, ok)
		}
	}
}

func TestHostsAreNoGroupsAndUnlike(t *testing.T) {
	of := map[uint64]uint32{}
	for _, ip := range append(ips(), 0x0a000002, 0x0a010001, 0x0b000001) {
		m := mac.Host(ip)
		if mac.Group(m) {
			t.Errorf("Host(%#x) is a group's", ip)
		}
		if other, ok := of[m]; ok && other != ip {
			t.Errorf("%#x and %#x have one Host", ip, other)
		}
		of[m] = ip
	}
}

func TestBroadcastIsTheGreatest(t *testing.T) {
	if mac.Broadcast != 0xffffffffffff || !mac.Group(mac.Broadcast) {
		t.Errorf("Broadcast: %#x", mac.Broadcast)
	}
}
