package addr_test

import (
	"fmt"
	"math"
	"net/netip"
	"strings"
	"testing"

	"paling/addr"
	"paling/api"
)

const greatest uint32 = math.MaxUint32

// some are addresses in whose bytes each bit, and each byte, has a place of its own.
func some() []uint32 {
	l := []uint32{0, 1, 0x0a000001, 0x01020304, 0xc0a801fe, 0xfffefdfc, math.MaxInt32, 1 << 31, greatest - 1, greatest}
	for i := range 32 {
		l = append(l, 1<<i, greatest&^(1<<i))
	}
	for v := range uint32(256) {
		l = append(l, v<<24|(255-v)<<16|(v^0x5a)<<8|(v^0xa5))
	}
	return l
}

// wrongBits are numbers of bits that no right prefix has; some would be right ones if less of them were looked at.
var wrongBits = []int{
	-1, -2, -8, -32, -33, -64, 33, 34, 64, 255, 256, 256 + 8, 1<<16 + 8, 1 << 32, 1<<32 + 8,
	math.MinInt, math.MinInt + 8, math.MinInt32, math.MaxInt32, math.MaxInt,
}

// top are an address's highest bits, read one by one.
func top(a uint32, bits int) string { return fmt.Sprintf("%032b", a)[:bits] }

// P2.1

func TestTextWritesFourNumbers(t *testing.T) {
	for a, want := range map[uint32]string{
		0:          "0.0.0.0",
		1:          "0.0.0.1",
		256:        "0.0.1.0",
		0x0a000001: "10.0.0.1",
		0x01020304: "1.2.3.4",
		0x09634064: "9.99.64.100",
		0xc0a801fe: "192.168.1.254",
		1 << 31:    "128.0.0.0",
		greatest:   "255.255.255.255",
	} {
		if got := addr.Text(a); got != want {
			t.Errorf("Text(%#x) = %q, not %q", a, got, want)
		}
	}
	for _, a := range some() {
		want := fmt.Sprintf("%d.%d.%d.%d", a>>24, a>>16&255, a>>8&255, a&255)
		if got := addr.Text(a); got != want {
			t.Errorf("Text(%#x) = %q, not %q", a, got, want)
		}
	}
}

func TestReadReadsTexts(t *testing.T) {
	for s, want := range map[string]uint32{
		"0.0.0.0":         0,
		"0.0.0.1":         1,
		"10.0.0.1":        0x0a000001,
		"1.2.3.4":         0x01020304,
		"9.99.64.100":     0x09634064,
		"192.168.1.254":   0xc0a801fe,
		"249.250.254.255": 0xf9fafeff,
		"255.255.255.255": greatest,
	} {
		if got, ok := addr.Read(s); !ok || got != want {
			t.Errorf("Read(%q) = %#x, %v", s, got, ok)
		}
	}
}

func TestReadReadsNothingElse(t *testing.T) {
	for _, s := range []string{
		"", " ", ".", "...", "....", "0", "1", "1.2", "1.2.3", "1.2.3.4.5", "16909060", "0x01020304",
		"01.2.3.4", "1.02.3.4", "1.2.03.4", "1.2.3.04", "00.0.0.0", "0.0.0.00", "0.00.0.0", "000.0.0.0", "1.2.3.001", "010.0.0.1",
		"256.2.3.4", "1.256.3.4", "1.2.256.4", "1.2.3.256", "1.2.3.260", "1.2.3.300", "1.2.3.999", "1.2.3.1000", "1.2.3.2550",
		"1.2.3.65536", "1.2.3.65540", "1.2.3.4294967296", "1.2.3.4294967300", "1.2.3.18446744073709551616", "1.2.3.18446744073709551620",
		"1.2.3.", ".1.2.3", "1..2.3", "1.2..3", "1.2.3..4", "1..2.3.4", ".1.2.3.4", "1.2.3.4.", "1.2.3.4..", "..1.2",
		"1.2.3.4 ", " 1.2.3.4", "1. 2.3.4", "1.2 .3.4", "1.2.3.4\n", "1.2.3.4\x00", "\t1.2.3.4",
		"+1.2.3.4", "-1.2.3.4", "1.2.3.+4", "1.2.3.-4", "1.2.3.-0", "1.2.3.- 4",
		"a.b.c.d", "1.2.3.a", "1.2.3.4a", "a1.2.3.4", "1.2.3.0x4", "1.2.3.0b1", "1.2.3.1e0", "1.2.3.1_0", "1_0.2.3.4",
		"1,2,3,4", "1:2:3:4", "1.2.3:4", "1/2/3/4", "1.2.3.4/", "1.2.3.4/8", "::1", "::ffff:1.2.3.4", "1.2.3.4%eth0",
		"1.2.3.٤", "1.2.3.４", "1。2。3。4", "1.2.3.\xff",
		strings.Repeat("1", 400), "1.2.3." + strings.Repeat("9", 400), "1.2.3." + strings.Repeat("0", 400), strings.Repeat("1.", 400),
	} {
		if got, ok := addr.Read(s); ok || got != 0 {
			t.Errorf("Read(%q) = %#x, %v", s, got, ok)
		}
	}
}

// Each number from 0 on stands in each of the four places, with noughts ahead and without.
func TestReadReadsEachNumberInEachPlace(t *testing.T) {
	for place := range 4 {
		for n := range 1200 {
			for _, form := range []string{"%d", "0%d", "00%d"} {
				parts := []string{"7", "7", "7", "7"}
				parts[place] = fmt.Sprintf(form, n)
				s := strings.Join(parts, ".")
				shift := 8 * (3 - place)
				want := uint32(0x07070707)&^(255<<shift) | uint32(n)<<shift
				may := n <= 255 && form == "%d"
				if !may {
					want = 0
				}
				if got, ok := addr.Read(s); ok != may || got != want {
					t.Fatalf("Read(%q) = %#x, %v", s, got, ok)
				}
			}
		}
	}
}

// Each byte of a text is put to each value, left out, and written twice: what is read is what Text writes.
func TestReadReadsJustTexts(t *testing.T) {
	for _, text := range []string{"0.0.0.0", "10.0.200.1", "249.25.99.100", "255.255.255.255"} {
		for at := range text {
			held(t, text[:at]+text[at+1:])
			held(t, text[:at])
			for c := range 256 {
				b := string([]byte{byte(c)})
				held(t, text[:at]+b+text[at+1:])
				held(t, text[:at]+b+text[at:])
			}
		}
	}
}

// Every text of eight bytes or less of these signs is read, or is not, as the library says.
func TestReadReadsWhatTheLibraryReads(t *testing.T) {
	const signs = "0256."
	var grow func(s string)
	grow = func(s string) {
		held(t, s)
		if len(s) < 8 {
			for _, c := range signs {
				grow(s + string(c))
			}
		}
	}
	grow("")
}

// held holds Read against the library, and against Text.
func held(t *testing.T, s string) {
	t.Helper()
	got, ok := addr.Read(s)
	a, err := netip.ParseAddr(s)
	if may := err == nil && a.Is4(); ok != may {
		t.Fatalf("Read(%q): %v", s, ok)
	}
	if !ok && got != 0 {
		t.Fatalf("Read(%q): %#x beside false", s, got)
	}
	if ok && addr.Text(got) != s {
		t.Fatalf("Read(%q) = %#x", s, got)
	}
}

// P2.2

func TestPrefixTextWritesAddressAndBits(t *testing.T) {
	for _, c := range []struct {
		p    api.Prefix
		want string
	}{
		{api.Prefix{}, "0.0.0.0/0"},
		{api.Prefix{Addr: greatest}, "255.255.255.255/0"},
		{api.Prefix{Addr: 0x0a000007, Bits: 24}, "10.0.0.7/24"},
		{api.Prefix{Addr: 0x0a010203, Bits: 20}, "10.1.2.3/20"},
		{api.Prefix{Addr: 0x0a010203, Bits: 1}, "10.1.2.3/1"},
		{api.Prefix{Addr: 0x0a010203, Bits: 9}, "10.1.2.3/9"},
		{api.Prefix{Addr: 0x0a010203, Bits: 10}, "10.1.2.3/10"},
		{api.Prefix{Addr: greatest, Bits: 31}, "255.255.255.255/31"},
		{api.Prefix{Addr: greatest, Bits: 32}, "255.255.255.255/32"},
		{api.Prefix{Bits: 32}, "0.0.0.0/32"},
	} {
		if got := addr.PrefixText(c.p); got != c.want {
			t.Errorf("PrefixText(%v) = %q, not %q", c.p, got, c.want)
		}
	}
	for _, a := range some() {
		for bits := range 33 {
			want := fmt.Sprintf("%s/%d", addr.Text(a), bits)
			if got := addr.PrefixText(api.Prefix{Addr: a, Bits: bits}); got != want {
				t.Errorf("PrefixText of %#x, %d: %q", a, bits, got)
			}
		}
	}
}

func TestPrefixTextWritesNothingOfWrongOnes(t *testing.T) {
	for _, bits := range wrongBits {
		for _, a := range []uint32{0, 0x0a000007, greatest} {
			if got := addr.PrefixText(api.Prefix{Addr: a, Bits: bits}); got != "" {
				t.Errorf("PrefixText of %#x, %d: %q", a, bits, got)
			}
		}
	}
}

func TestRightIsFrom0To32(t *testing.T) {
	for _, a := range []uint32{0, 0x0a000007, greatest} {
		for bits := -300; bits <= 300; bits++ {
			if got := addr.Right(api.Prefix{Addr: a, Bits: bits}); got != (bits >= 0 && bits <= 32) {
				t.Errorf("Right of %#x, %d: %v", a, bits, got)
			}
		}
		for _, bits := range wrongBits {
			if addr.Right(api.Prefix{Addr: a, Bits: bits}) {
				t.Errorf("Right of %#x, %d", a, bits)
			}
		}
	}
}

func TestReadPrefixReadsTexts(t *testing.T) {
	for s, want := range map[string]api.Prefix{
		"0.0.0.0/0":          {},
		"0.0.0.0/32":         {Bits: 32},
		"10.0.0.7/24":        {Addr: 0x0a000007, Bits: 24},
		"10.1.2.3/20":        {Addr: 0x0a010203, Bits: 20},
		"10.1.2.3/0":         {Addr: 0x0a010203},
		"10.1.2.3/9":         {Addr: 0x0a010203, Bits: 9},
		"255.255.255.255/0":  {Addr: greatest},
		"255.255.255.255/32": {Addr: greatest, Bits: 32},
	} {
		if got, ok := addr.ReadPrefix(s); !ok || got != want {
			t.Errorf("ReadPrefix(%q) = %v, %v", s, got, ok)
		}
	}
}

func TestReadPrefixReadsNothingElse(t *testing.T) {
	for _, s := range []string{
		"", "/", "//", "/8", "8", "8/", "10.1.2.3", "10.1.2.3/", "10.1.2.3//8", "10.1.2.3/8/", "10.1.2.3/8/8", "/10.1.2.3/8", "/10.1.2.3",
		"10.1.2.3/33", "10.1.2.3/40", "10.1.2.3/99", "10.1.2.3/100", "10.1.2.3/256", "10.1.2.3/264", "10.1.2.3/320",
		"10.1.2.3/65536", "10.1.2.3/4294967296", "10.1.2.3/4294967304", "10.1.2.3/18446744073709551616", "10.1.2.3/18446744073709551624",
		"10.1.2.3/00", "10.1.2.3/01", "10.1.2.3/08", "10.1.2.3/032", "10.1.2.3/000", "10.1.2.3/-0", "10.1.2.3/-1", "10.1.2.3/-8", "10.1.2.3/+8",
		"10.1.2.3/ 8", "10.1.2.3 /8", "10.1.2.3/8 ", " 10.1.2.3/8", "10.1.2.3/8\n", "10.1.2.3/8\x00",
		"10.1.2.3/a", "10.1.2.3/8a", "10.1.2.3/0x8", "10.1.2.3/1_0", "10.1.2.3/8.", "10.1.2.3/.8", "10.1.2.3/8.0", "10.1.2.3/255.0.0.0", "10.1.2.3/٨",
		"10.1.2/8", "10.1.2.3.4/8", "10.1.2.256/8", "10.1.2.03/8", "10.1.2./8", ".10.1.2/8", "10..1.2/8", "a.b.c.d/8", "10.1.2.3.8", "10.1.2.3\\8", "10.1.2.3:8",
		"10.1.2.3/" + strings.Repeat("9", 400), "10.1.2.3/" + strings.Repeat("0", 400), strings.Repeat("10.1.2.3/8", 40),
	} {
		if got, ok := addr.ReadPrefix(s); ok || got != (api.Prefix{}) {
			t.Errorf("ReadPrefix(%q) = %v, %v", s, got, ok)
		}
	}
}

// Each number of bits is read with noughts ahead and without.
func TestReadPrefixReadsEachNumberOfBits(t *testing.T) {
	for bits := range 1200 {
		for _, form := range []string{"10.1.2.3/%d", "10.1.2.3/0%d", "10.1.2.3/00%d"} {
			heldPrefix(t, fmt.Sprintf(form, bits))
		}
	}
}

// Each byte of a text is put to each value, left out, and written twice: what is read is what PrefixText writes.
func TestReadPrefixReadsJustTexts(t *testing.T) {
	for _, text := range []string{"0.0.0.0/0", "10.0.200.1/32", "255.255.255.255/24", "10.0.0.7/3"} {
		for at := range text {
			heldPrefix(t, text[:at]+text[at+1:])
			heldPrefix(t, text[:at])
			for c := range 256 {
				b := string([]byte{byte(c)})
				heldPrefix(t, text[:at]+b+text[at+1:])
				heldPrefix(t, text[:at]+b+text[at:])
			}
		}
	}
}

// heldPrefix holds ReadPrefix against the library, and against PrefixText.
func heldPrefix(t *testing.T, s string) {
	t.Helper()
	got, ok := addr.ReadPrefix(s)
	p, err := netip.ParsePrefix(s)
	if may := err == nil && p.Addr().Is4(); ok != may {
		t.Fatalf("ReadPrefix(%q): %v", s, ok)
	}
	if !ok && got != (api.Prefix{}) {
		t.Fatalf("ReadPrefix(%q): %v beside false", s, got)
	}
	if ok && (addr.PrefixText(got) != s || got.Bits != p.Bits()) {
		t.Fatalf("ReadPrefix(%q) = %v", s, got)
	}
}

// P2.3

func TestFirstAndLast(t *testing.T) {
	for _, c := range []struct {
		p           api.Prefix
		first, last uint32
	}{
		{api.Prefix{Addr: 0x0a000007, Bits: 24}, 0x0a000000, 0x0a0000ff},
		{api.Prefix{Addr: 0x0a010203, Bits: 20}, 0x0a010000, 0x0a010fff},
		{api.Prefix{Addr: 5}, 0, greatest},
		{api.Prefix{Addr: greatest}, 0, greatest},
		{api.Prefix{Addr: 5, Bits: 1}, 0, math.MaxInt32},
		{api.Prefix{Addr: 1<<31 | 5, Bits: 1}, 1 << 31, greatest},
		{api.Prefix{Addr: 5, Bits: 31}, 4, 5},
		{api.Prefix{Addr: 5, Bits: 32}, 5, 5},
		{api.Prefix{Addr: greatest, Bits: 32}, greatest, greatest},
		{api.Prefix{Bits: 32}, 0, 0},
	} {
		if first, last := addr.First(c.p), addr.Last(c.p); first != c.first || last != c.last {
			t.Errorf("of %v: %#x to %#x", c.p, first, last)
		}
	}
	for _, a := range some() {
		for bits := range 33 {
			p := api.Prefix{Addr: a, Bits: bits}
			first, last := addr.First(p), addr.Last(p)
			if got, want := top(first, 32), top(a, bits)+strings.Repeat("0", 32-bits); got != want {
				t.Errorf("First of %#x, %d: %#x", a, bits, first)
			}
			if got, want := top(last, 32), top(a, bits)+strings.Repeat("1", 32-bits); got != want {
				t.Errorf("Last of %#x, %d: %#x", a, bits, last)
			}
		}
	}
}

func TestHasWhoseHighestBitsAreIts(t *testing.T) {
	for _, a := range []uint32{0, 5, 0x0a010203, 0xc0a801fe, 1 << 31, greatest} {
		for bits := range 33 {
			p := api.Prefix{Addr: a, Bits: bits}
			for _, b := range some() {
				if got := addr.Has(p, b); got != (top(a, bits) == top(b, bits)) {
					t.Errorf("Has of %#x, %d, and %#x: %v", a, bits, b, got)
				}
			}
			for i := range 32 {
				if got := addr.Has(p, a^1<<i); got != (i < 32-bits) {
					t.Errorf("Has of %#x, %d, and it with bit %d turned: %v", a, bits, i, got)
				}
			}
		}
	}
}

// prefixes are right ones: of a few addresses, with each number of bits.
func prefixes() []api.Prefix {
	var l []api.Prefix
	for _, a := range []uint32{0, 1, 5, 0x0a000007, 0x0a000107, 0x0a010203, 0xc0a801fe, 1 << 31, greatest - 1, greatest} {
		for bits := range 33 {
			l = append(l, api.Prefix{Addr: a, Bits: bits})
		}
	}
	return l
}

func TestWithinIsLongerAndItsAddressHad(t *testing.T) {
	parse := func(s string) api.Prefix {
		p, ok := addr.ReadPrefix(s)
		if !ok {
			t.Fatalf("ReadPrefix(%q)", s)
		}
		return p
	}
	for _, c := range []struct {
		p, q string
		want bool
	}{
		{"10.0.0.7/24", "10.0.0.7/24", true},
		{"10.0.0.7/24", "10.0.0.9/24", true}, // the bits behind do not count
		{"10.0.0.7/25", "10.0.0.9/24", true},
		{"10.0.0.7/24", "10.0.0.9/25", false}, // its address is had, but it is shorter
		{"10.0.0.7/24", "10.0.1.7/24", false},
		{"10.0.0.7/24", "10.0.1.7/23", true},
		{"10.0.0.7/24", "10.0.2.7/23", false},
		{"10.0.0.7/32", "255.255.255.255/0", true},
		{"10.0.0.7/0", "255.255.255.255/0", true},
		{"10.0.0.7/0", "10.0.0.7/1", false},
		{"10.0.0.7/0", "10.0.0.7/32", false},
		{"10.0.0.7/32", "10.0.0.7/32", true},
		{"10.0.0.7/32", "10.0.0.6/32", false},
		{"10.0.0.7/32", "10.0.0.6/31", true},
	} {
		if got := addr.Within(parse(c.p), parse(c.q)); got != c.want {
			t.Errorf("Within of %s and %s: %v", c.p, c.q, got)
		}
	}
	for _, p := range prefixes() {
		for _, q := range prefixes() {
			want := p.Bits >= q.Bits && top(p.Addr, q.Bits) == top(q.Addr, q.Bits)
			if got := addr.Within(p, q); got != want {
				t.Errorf("Within of %v and %v: %v", p, q, got)
			}
		}
	}
}

func TestWrongOnesHaveNothing(t *testing.T) {
	for _, bits := range wrongBits {
		for _, a := range []uint32{0, 5, 0x0a000007, greatest} {
			bad := api.Prefix{Addr: a, Bits: bits}
			if addr.First(bad) != 0 || addr.Last(bad) != 0 {
				t.Errorf("of %v: %#x to %#x", bad, addr.First(bad), addr.Last(bad))
			}
			for _, b := range []uint32{0, 5, a, greatest} {
				if addr.Has(bad, b) {
					t.Errorf("Has of %v and %#x", bad, b)
				}
			}
			for _, q := range prefixes() {
				if addr.Within(bad, q) || addr.Within(q, bad) {
					t.Errorf("Within of %v and %v, or the other way", bad, q)
				}
			}
			for _, other := range wrongBits {
				if addr.Within(bad, api.Prefix{Addr: a, Bits: other}) {
					t.Errorf("Within of %v and %d bits", bad, other)
				}
			}
		}
	}
}

// P2.4

func TestWhatIsWrittenIsRead(t *testing.T) {
	for _, a := range some() {
		if got, ok := addr.Read(addr.Text(a)); !ok || got != a {
			t.Errorf("Read(Text(%#x)) = %#x, %v", a, got, ok)
		}
		for bits := range 33 {
			p := api.Prefix{Addr: a, Bits: bits}
			if got, ok := addr.ReadPrefix(addr.PrefixText(p)); !ok || got != p {
				t.Errorf("ReadPrefix(PrefixText(%v)) = %v, %v", p, got, ok)
			}
		}
	}
}

func TestAPrefixHasFirstToLast(t *testing.T) {
	for _, p := range prefixes() {
		first, last := addr.First(p), addr.Last(p)
		if first > p.Addr || p.Addr > last {
			t.Errorf("of %v: %#x to %#x", p, first, last)
		}
		at := append(some(), first, last, p.Addr)
		if first > 0 {
			at = append(at, first-1)
		}
		if last < greatest {
			at = append(at, last+1)
		}
		for _, a := range at {
			if got := addr.Has(p, a); got != (first <= a && a <= last) {
				t.Errorf("Has of %v and %#x: %v", p, a, got)
			}
		}
	}
}

func TestTwoPrefixesAreWithinOrApart(t *testing.T) {
	for _, p := range prefixes() {
		for _, q := range prefixes() {
			apart := addr.Last(p) < addr.First(q) || addr.Last(q) < addr.First(p)
			if within := addr.Within(p, q) || addr.Within(q, p); within == apart {
				t.Errorf("%v and %v: within is %v, apart too", p, q, within)
			}
			if addr.Within(p, q) && (addr.First(p) < addr.First(q) || addr.Last(p) > addr.Last(q)) {
				t.Errorf("%v is within %v, and has others", p, q)
			}
		}
	}
}
