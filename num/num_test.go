package num_test

import (
	"fmt"
	"math"
	"net/netip"
	"regexp"
	"slices"
	"strconv"
	"strings"
	"testing"

	"paling/addr"
	"paling/api"
	"paling/num"
)

const (
	least = math.MinInt
	most  = math.MaxInt
)

// tenDigits is the greatest number of ten digits.
const tenDigits = 9999999999

// some are numbers of each count of digits, below 0 and above, with the least and the greatest.
func some() []int {
	l := []int{0, 7, 12, 4094, 65535, math.MaxInt32, math.MinInt32, math.MaxInt, math.MinInt, math.MinInt + 1}
	for p := 1; p <= 1e18; p *= 10 {
		l = append(l, p, p-1, p+1, 1-p, -p, -p-1)
		if p == 1e18 {
			break
		}
	}
	for i := range 63 {
		l = append(l, 1<<i, -1<<i, 1<<i-1)
	}
	return l
}

// ranges are the least and the greatest number that may be; of some ranges there is none.
var ranges = [][2]int{
	{least, most}, {0, most}, {least, 0}, {least, -1}, {1, most}, {0, 0}, {1, 4094}, {0, 65535}, {-5, 5}, {-1, -1}, {-20, -10},
	{tenDigits, tenDigits}, {-tenDigits, tenDigits}, {tenDigits + 1, most}, {least, -tenDigits - 1}, {most, most}, {least, least},
	{1, 0}, {5, -5}, {most, least}, {1, least}, {most, 0},
}

// P3.1

func TestTextWritesDigits(t *testing.T) {
	for n, want := range map[int]string{
		0:             "0",
		1:             "1",
		-1:            "-1",
		9:             "9",
		10:            "10",
		-10:           "-10",
		4094:          "4094",
		-12:           "-12",
		tenDigits:     "9999999999",
		10000000000:   "10000000000",
		math.MaxInt64: "9223372036854775807",
		math.MinInt64: "-9223372036854775808",
	} {
		if got := num.Text(n); got != want {
			t.Errorf("Text(%d) = %q", n, got)
		}
	}
	for _, n := range some() {
		if got := num.Text(n); got != fmt.Sprintf("%d", n) {
			t.Errorf("Text(%d) = %q", n, got)
		}
	}
}

func TestReadReadsTexts(t *testing.T) {
	for s, want := range map[string]int{
		"0": 0, "1": 1, "7": 7, "9": 9, "10": 10, "100": 100, "4094": 4094, "65535": 65535, "2147483648": 1 << 31,
		"-1": -1, "-9": -9, "-10": -10, "-12": -12, "-2147483649": -1<<31 - 1,
	} {
		if got, ok := num.Read(s, least, most); !ok || got != want {
			t.Errorf("Read(%q) = %d, %v", s, got, ok)
		}
	}
}

func TestReadReadsTenDigitsAndNotEleven(t *testing.T) {
	for s, want := range map[string]int{
		"999999999": 999999999, "1000000000": 1000000000, "1234567890": 1234567890, "9999999999": tenDigits,
		"-999999999": -999999999, "-1000000000": -1000000000, "-1234567890": -1234567890, "-9999999999": -tenDigits,
	} {
		if got, ok := num.Read(s, least, most); !ok || got != want {
			t.Errorf("Read(%q) = %d, %v", s, got, ok)
		}
	}
	for _, s := range []string{
		"10000000000", "12345678901", "99999999999", "-10000000000", "-12345678901", "-99999999999",
		"9223372036854775807", "-9223372036854775808", "9223372036854775808", "18446744073709551616", "18446744073709551623",
		"00000000001", "-00000000001", "4294967296007",
	} {
		if got, ok := num.Read(s, least, most); ok || got != 0 {
			t.Errorf("Read(%q) = %d, %v", s, got, ok)
		}
	}
}

func TestReadReadsNothingElse(t *testing.T) {
	for _, s := range []string{
		"", " ", "-", "+", "--", "+-", "-+", "--1", "+-1", "-+1", "+1", "+0", "-0", "-00", "00", "01", "007", "-01", "-007", "0000000001", "-0000000001",
		" 1", "1 ", "- 1", "1 2", "\t1", "1\n", "1\x00", "\x001", "1-", "1-2", "1+", "0-", "1.0", "1.", ".1", "1,", ",1", "1,2",
		"a", "1a", "a1", "0x1", "0b1", "0o7", "1e1", "1_0", "1__0", "_1", "١", "１", "−1", "\xff", "1\xff", "ten", "nan", "inf",
		strings.Repeat("1", 400), strings.Repeat("0", 400), strings.Repeat("-", 400), "-" + strings.Repeat("9", 1<<20),
	} {
		if got, ok := num.Read(s, least, most); ok || got != 0 {
			t.Errorf("Read(%q) = %d, %v", s, got, ok)
		}
	}
}

func TestReadReadsFromLeastToMost(t *testing.T) {
	for _, c := range []struct {
		s           string
		least, most int
		want        bool
	}{
		{"5", 5, 9, true}, {"9", 5, 9, true}, {"4", 5, 9, false}, {"10", 5, 9, false}, {"5", 6, 9, false}, {"-5", 5, 9, false}, {"-7", 5, 9, false},
		{"-5", -5, 5, true}, {"0", -5, 5, true}, {"5", -5, 5, true}, {"-6", -5, 5, false}, {"6", -5, 5, false},
		{"-9", -9, -5, true}, {"-5", -9, -5, true}, {"-10", -9, -5, false}, {"-4", -9, -5, false}, {"7", -9, -5, false}, {"0", -9, -5, false},
		{"7", 7, 7, true}, {"6", 7, 7, false}, {"8", 7, 7, false}, {"0", 0, 0, true}, {"1", 0, 0, false}, {"-1", 0, 0, false},
		{"7", 8, 6, false}, {"8", 8, 6, false}, {"6", 8, 6, false}, {"0", most, least, false}, {"0", 1, least, false},
		{"4094", 1, 4094, true}, {"4095", 1, 4094, false}, {"1", 1, 4094, true}, {"0", 1, 4094, false},
	} {
		got, ok := num.Read(c.s, c.least, c.most)
		if ok != c.want || !ok && got != 0 || ok && num.Text(got) != c.s {
			t.Errorf("Read(%q, %d, %d) = %d, %v", c.s, c.least, c.most, got, ok)
		}
	}
	for _, n := range some() {
		for _, r := range ranges {
			held(t, strconv.Itoa(n), r[0], r[1])
		}
	}
}

// Each number of a small range is read within each such range, with noughts ahead and without, signed and not.
func TestReadReadsEachNumberOfEachRange(t *testing.T) {
	for n := range 25 {
		for _, form := range []string{"%d", "0%d", "+%d", "-%d", "-0%d", "%d0"} {
			s := fmt.Sprintf(form, n)
			for low := -25; low <= 25; low++ {
				for high := -25; high <= 25; high++ {
					held(t, s, low, high)
				}
			}
		}
	}
}

// Each byte of a text is put to each value, left out, and written twice.
func TestReadReadsJustTexts(t *testing.T) {
	for _, text := range []string{"0", "7", "-7", "4094", "-1200", "9999999999", "-1000000000"} {
		for at := range text {
			held(t, text[:at]+text[at+1:], least, most)
			held(t, text[:at], least, most)
			for c := range 256 {
				b := string([]byte{byte(c)})
				held(t, text[:at]+b+text[at+1:], least, most)
				held(t, text[:at]+b+text[at:], least, most)
			}
		}
	}
}

// Every text of six bytes or less of these signs is read, or is not.
func TestReadReadsAllShortTexts(t *testing.T) {
	const signs = "019-+ _"
	var grow func(s string)
	grow = func(s string) {
		held(t, s, least, most)
		held(t, s, -90, 900)
		if len(s) < 6 {
			for _, c := range signs {
				grow(s + string(c))
			}
		}
	}
	grow("")
}

// number is the form of a number's text of at most ten digits.
var number = regexp.MustCompile(`^(0|-?[1-9][0-9]{0,9})$`)

// told tells what Read is to tell.
func told(s string, low, high int) (int, bool) {
	if !number.MatchString(s) || strings.HasSuffix(s, "\n") {
		return 0, false
	}
	n, err := strconv.ParseInt(s, 10, 64)
	if err != nil || n < int64(low) || n > int64(high) {
		return 0, false
	}
	return int(n), true
}

// held holds Read against the form, and against Text.
func held(t *testing.T, s string, low, high int) {
	t.Helper()
	got, ok := num.Read(s, low, high)
	if want, may := told(s, low, high); ok != may || got != want {
		t.Fatalf("Read(%q, %d, %d) = %d, %v", s, low, high, got, ok)
	}
	if ok && num.Text(got) != s {
		t.Fatalf("Read(%q) = %d", s, got)
	}
}

// P3.2

// upTo are the numbers from first on, count of them.
func upTo(first, count int) []int {
	l := make([]int, count)
	for i := range l {
		l[i] = first + i
	}
	return l
}

func TestRisingIsOneTo16Numbers(t *testing.T) {
	for count := range 40 {
		want := count >= 1 && count <= 16
		if got := num.Rising(upTo(1, count), 1, 4094); got != want {
			t.Errorf("Rising of %d numbers: %v", count, got)
		}
		if got := num.Rising(upTo(-20, count), least, most); got != want {
			t.Errorf("Rising of %d numbers from -20 on: %v", count, got)
		}
	}
	for _, l := range [][]int{nil, {}, upTo(1, 16)[:0]} {
		for _, r := range ranges {
			if num.Rising(l, r[0], r[1]) {
				t.Errorf("Rising of nothing, from %d to %d", r[0], r[1])
			}
		}
	}
	if num.Rising(upTo(1, 1000), 1, 4094) {
		t.Error("Rising of 1000 numbers")
	}
}

func TestRisingIsEachGreaterThanTheOneAhead(t *testing.T) {
	for _, c := range []struct {
		l    []int
		want bool
	}{
		{[]int{10, 20}, true}, {[]int{20, 10}, false}, {[]int{10, 10}, false}, {[]int{10, 11}, true}, {[]int{11, 10}, false},
		{[]int{1, 2, 4094}, true}, {[]int{1, 3, 2}, false}, {[]int{2, 1, 3}, false}, {[]int{1, 2, 2}, false}, {[]int{1, 1, 2}, false}, {[]int{3, 1, 2}, false}, {[]int{2, 3, 1}, false},
		{[]int{-2, -1, 0, 1}, true}, {[]int{-1, -2}, false}, {[]int{0, -1}, false}, {[]int{1, -2}, false},
		{[]int{least, most}, true}, {[]int{most, least}, false}, {[]int{least, 0, most}, true}, {[]int{least, least}, false}, {[]int{most, most}, false},
		{[]int{least, least + 1}, true}, {[]int{most - 1, most}, true}, {[]int{most, 0}, false}, {[]int{0, least}, false},
	} {
		if got := num.Rising(c.l, least, most); got != c.want {
			t.Errorf("Rising of %v: %v", c.l, got)
		}
	}
	for at := 1; at < 16; at++ {
		same, less := upTo(10, 16), upTo(10, 16)
		same[at] = same[at-1]
		less[at] = less[at-1] - 1
		if num.Rising(same, least, most) || num.Rising(less, least, most) {
			t.Errorf("Rising of %v or %v", same, less)
		}
	}
}

func TestRisingIsFromLeastToMost(t *testing.T) {
	for _, c := range []struct {
		l           []int
		least, most int
		want        bool
	}{
		{[]int{1, 4094}, 1, 4094, true}, {[]int{0, 4094}, 1, 4094, false}, {[]int{1, 4095}, 1, 4094, false}, {[]int{1, 4094}, 2, 4094, false}, {[]int{1, 4094}, 1, 4093, false},
		{[]int{5}, 5, 5, true}, {[]int{4}, 5, 5, false}, {[]int{6}, 5, 5, false}, {[]int{5, 6}, 5, 5, false}, {[]int{4, 5}, 5, 5, false},
		{[]int{5}, 6, 4, false}, {[]int{4}, 6, 4, false}, {[]int{6}, 6, 4, false}, {[]int{4, 5, 6}, 6, 4, false},
		{[]int{-9, -5}, -9, -5, true}, {[]int{-10, -5}, -9, -5, false}, {[]int{-9, -4}, -9, -5, false}, {[]int{-9, 4}, -9, -5, false},
		{[]int{least}, least, most, true}, {[]int{most}, least, most, true}, {[]int{least}, least + 1, most, false}, {[]int{most}, least, most - 1, false},
		{upTo(1, 16), 1, 16, true}, {upTo(1, 16), 2, 16, false}, {upTo(1, 16), 1, 15, false}, {upTo(0, 16), 1, 16, false}, {upTo(2, 16), 1, 16, false},
	} {
		if got := num.Rising(c.l, c.least, c.most); got != c.want {
			t.Errorf("Rising of %v, from %d to %d: %v", c.l, c.least, c.most, got)
		}
	}
	// A lone number is Rising just where its text is read, but for its digits.
	for _, n := range some() {
		for _, r := range ranges {
			if got := num.Rising([]int{n}, r[0], r[1]); got != (n >= r[0] && n <= r[1]) {
				t.Errorf("Rising of %d alone, from %d to %d: %v", n, r[0], r[1], got)
			}
		}
	}
}

func TestListTextWritesTextsWithCommas(t *testing.T) {
	for _, c := range []struct {
		l    []int
		want string
	}{
		{nil, ""}, {[]int{}, ""}, {[]int{0}, "0"}, {[]int{7}, "7"}, {[]int{-7}, "-7"},
		{[]int{10, 20}, "10,20"}, {[]int{1, 2, 4094}, "1,2,4094"}, {[]int{-2, -1, 0, 1}, "-2,-1,0,1"},
		{[]int{20, 10}, "20,10"}, {[]int{5, 5}, "5,5"}, // it need not rise
		{[]int{least, most}, "-9223372036854775808,9223372036854775807"},
		{upTo(1, 17), "1,2,3,4,5,6,7,8,9,10,11,12,13,14,15,16,17"}, // and may be longer than what is read
	} {
		if got := num.ListText(c.l); got != c.want {
			t.Errorf("ListText of %v: %q", c.l, got)
		}
	}
	for _, l := range [][]int{some(), upTo(-500, 1000)} {
		if got, want := num.ListText(l), strings.Join(strings.Fields(strings.Trim(fmt.Sprint(l), "[]")), ","); got != want {
			t.Errorf("ListText of many: %q", got)
		}
	}
}

func TestReadListReadsTexts(t *testing.T) {
	for s, want := range map[string][]int{
		"10,20": {10, 20}, "1": {1}, "4094": {4094}, "1,4094": {1, 4094}, "1,2,4094": {1, 2, 4094}, "9,10": {9, 10}, "99,100,101": {99, 100, 101},
		"1,2,3,4,5,6,7,8,9,10,11,12,13,14,15,16": upTo(1, 16),
	} {
		if got, ok := num.ReadList(s, 1, 4094); !ok || !slices.Equal(got, want) {
			t.Errorf("ReadList(%q) = %v, %v", s, got, ok)
		}
	}
	for s, want := range map[string][]int{
		"0": {0}, "-1": {-1}, "-2,-1,0,1": {-2, -1, 0, 1}, "-10,-9": {-10, -9}, "-5,3": {-5, 3}, "-9999999999,9999999999": {-tenDigits, tenDigits},
	} {
		if got, ok := num.ReadList(s, least, most); !ok || !slices.Equal(got, want) {
			t.Errorf("ReadList(%q) = %v, %v", s, got, ok)
		}
	}
}

func TestReadListReadsNothingElse(t *testing.T) {
	for _, s := range []string{
		"", ",", ",,", "1,", ",1", "1,,2", ",1,2", "1,2,", "1,2,,", ",,1", "1,,", ",1,", "1,2,3,,4", " ", "1,2, ",
		"20,10", "2,1", "1,1", "1,3,2", "2,1,3", "1,2,2", "1,1,2", "3,2,1", "10,9", "100,99", "1,-1", "2,10,9", "1,2,1", "4094,1",
		"0", "0,1", "1,4095", "4095", "-1,1", "0,4094", "1,2,5000", "-2,-1", "1,4294967298", "1,18446744073709551618",
		"01,2", "1,02", "001", "1,2,03", "+1,2", "1,+2", "-0,1", "1,-0,2", "--1,2", "1,2a", "a,b", "a", "1,b", "1,0x2", "1,2_0",
		"1, 2", "1 ,2", " 1,2", "1,2 ", "1 2", "1,2\n", "1,2\x00", "1;2", "1.2", "1-2", "1:2", "1/2", "1，2", "1,٢", "1,2,-", "-", "1,2,10000000000",
		"1,2,3,4,5,6,7,8,9,10,11,12,13,14,15,16,17", "1,2,3,4,5,6,7,8,9,10,11,12,13,14,15,16,", ",1,2,3,4,5,6,7,8,9,10,11,12,13,14,15,16",
		"1,2,3,4,5,6,7,8,9,10,11,12,13,14,15,16,16", "1,2,3,4,5,6,7,8,9,10,11,12,13,14,15,16,17,", "1,2,3,4,5,6,7,8,9,10,11,12,13,14,15,16,a",
		strings.Repeat("1,", 1000), strings.Repeat(",", 1<<20), strings.Repeat("1", 1<<20), num.ListText(upTo(1, 4094)),
	} {
		if got, ok := num.ReadList(s, 1, 4094); ok || len(got) > 0 {
			t.Errorf("ReadList(%q) = %v, %v", s, got, ok)
		}
	}
	for _, s := range []string{"10000000000", "1,10000000000", "-10000000000,1", "-10000000000", "9999999999,10000000000", "-1,-2", "0,-1", "0,0", "-1,-1"} {
		if got, ok := num.ReadList(s, least, most); ok || len(got) > 0 {
			t.Errorf("ReadList(%q) = %v, %v", s, got, ok)
		}
	}
}

func TestReadListReadsOneTo16(t *testing.T) {
	for count := range 40 {
		want := count >= 1 && count <= 16
		for _, first := range []int{-50, -3, 0, 1, 95, 4000} {
			l := upTo(first, count)
			got, ok := num.ReadList(num.ListText(l), -100, 5000)
			if ok != want || ok && !slices.Equal(got, l) || !ok && len(got) > 0 {
				t.Errorf("ReadList of %d numbers from %d on: %v, %v", count, first, got, ok)
			}
		}
	}
}

// Numbers at the edges of the range, one inside and one outside, alone and in company.
func TestReadListReadsFromLeastToMost(t *testing.T) {
	for _, r := range ranges {
		if r[0] < -tenDigits || r[1] > tenDigits {
			continue
		}
		low, high := r[0], r[1]
		for _, l := range [][]int{{low}, {high}, {low, high}, {low - 1}, {high + 1}, {low - 1, high}, {low, high + 1}, {low, low + 1}, {high - 1, high}, {low + 1, high - 1}} {
			heldList(t, num.ListText(l), low, high)
		}
	}
}

// Each byte of a text is put to each value, left out, and written twice.
func TestReadListReadsJustTexts(t *testing.T) {
	for _, text := range []string{"1", "1,2,4094", "9,10,11", "-3,0,7", "1,2,3,4,5,6,7,8,9,10,11,12,13,14,15,16"} {
		for at := range text {
			heldList(t, text[:at]+text[at+1:], -4094, 4094)
			heldList(t, text[:at], -4094, 4094)
			for c := range 256 {
				b := string([]byte{byte(c)})
				heldList(t, text[:at]+b+text[at+1:], -4094, 4094)
				heldList(t, text[:at]+b+text[at:], -4094, 4094)
			}
		}
	}
}

// Every text of seven bytes or less of these signs is read, or is not.
func TestReadListReadsAllShortTexts(t *testing.T) {
	const signs = "012-,"
	var grow func(s string)
	grow = func(s string) {
		heldList(t, s, -20, 110)
		if len(s) < 7 {
			for _, c := range signs {
				grow(s + string(c))
			}
		}
	}
	grow("")
}

// heldList holds ReadList against Read's form, Rising and ListText.
func heldList(t *testing.T, s string, low, high int) {
	t.Helper()
	got, ok := num.ReadList(s, low, high)
	words := strings.Split(s, ",")
	may := len(words) <= 16
	var want []int
	for i, w := range words {
		n, is := told(w, low, high)
		may = may && is && (i == 0 || n > want[i-1])
		want = append(want, n)
	}
	if ok != may || ok && !slices.Equal(got, want) || !ok && len(got) > 0 {
		t.Fatalf("ReadList(%q, %d, %d) = %v, %v", s, low, high, got, ok)
	}
	if ok && (!num.Rising(got, low, high) || num.ListText(got) != s) {
		t.Fatalf("ReadList(%q) = %v, which is not Rising, or another text's", s, got)
	}
}

func TestListsAreLeftAndNew(t *testing.T) {
	room := upTo(1, 20)
	for n := range 20 {
		num.Rising(room[:n], 1, 4094)
		num.ListText(room[:n])
	}
	if !slices.Equal(room, upTo(1, 20)) {
		t.Errorf("what is handed in is changed: %v", room)
	}
	if num.ListText(room[:2]) != "1,2" || !num.Rising([]int{1, 2, 1}[:2], 1, 9) {
		t.Error("what lies behind a list's length plays a part")
	}
	first, _ := num.ReadList("1,2,3", 1, 9)
	second, _ := num.ReadList("1,2,3", 1, 9)
	_ = append(first, 8)
	first[0] = 9
	if second[0] != 1 {
		t.Error("two lists share their memory")
	}
}

// P3.3

// addrs are the addresses from first on, count of them.
func addrs(first uint32, count int) []uint32 {
	l := make([]uint32, count)
	for i := range l {
		l[i] = first + uint32(i)
	}
	return l
}

func TestAddrsTextWritesTextsWithCommas(t *testing.T) {
	for _, c := range []struct {
		l    []uint32
		want string
	}{
		{nil, ""}, {[]uint32{}, ""}, {[]uint32{0}, "0.0.0.0"}, {[]uint32{0x0a000001}, "10.0.0.1"},
		{[]uint32{0x0a000001, 0x0a000002}, "10.0.0.1,10.0.0.2"},
		{[]uint32{0, 1 << 31, math.MaxUint32}, "0.0.0.0,128.0.0.0,255.255.255.255"},
		{[]uint32{2, 1}, "0.0.0.2,0.0.0.1"}, {[]uint32{1, 1}, "0.0.0.1,0.0.0.1"}, // they need not rise
	} {
		if got := num.AddrsText(c.l); got != c.want {
			t.Errorf("AddrsText of %v: %q", c.l, got)
		}
	}
	for count := range 60 {
		var words []string
		for _, a := range addrs(0x0a0000f0, count) {
			words = append(words, addr.Text(a))
		}
		if got := num.AddrsText(addrs(0x0a0000f0, count)); got != strings.Join(words, ",") {
			t.Errorf("AddrsText of %d: %q", count, got)
		}
	}
}

func TestReadAddrsReadsTexts(t *testing.T) {
	for s, want := range map[string][]uint32{
		"10.0.0.1": {0x0a000001}, "0.0.0.0": {0}, "255.255.255.255": {math.MaxUint32},
		"10.0.0.1,10.0.0.2": {0x0a000001, 0x0a000002}, "9.0.0.0,10.0.0.0": {0x09000000, 0x0a000000}, // by numbers, not by bytes of texts
		"0.0.0.0,255.255.255.255":                     {0, math.MaxUint32},
		"127.255.255.255,128.0.0.0,128.0.0.1":         {math.MaxInt32, 1 << 31, 1<<31 + 1},
		"1.2.3.4,1.2.3.5,1.2.4.0,1.3.0.0,2.0.0.0":     {0x01020304, 0x01020305, 0x01020400, 0x01030000, 0x02000000},
		"254.255.255.255,255.0.0.0,255.255.255.254":   {0xfeffffff, 0xff000000, 0xfffffffe},
		num.AddrsText(addrs(math.MaxUint32-15, 16)):   addrs(math.MaxUint32-15, 16),
		"0.0.0.0,0.0.0.1,0.0.1.0,0.1.0.0,1.0.0.0":     {0, 1, 1 << 8, 1 << 16, 1 << 24},
		"99.0.0.0,100.0.0.0,100.99.0.0,100.100.0.255": {0x63000000, 0x64000000, 0x64630000, 0x646400ff},
	} {
		if got, ok := num.ReadAddrs(s); !ok || !slices.Equal(got, want) {
			t.Errorf("ReadAddrs(%q) = %v, %v", s, got, ok)
		}
	}
}

func TestReadAddrsReadsOneTo16(t *testing.T) {
	for count := range 40 {
		want := count >= 1 && count <= 16
		for _, first := range []uint32{0, 0x0a000001, 0x0a0000f8, math.MaxInt32 - 3, math.MaxUint32 - 39} {
			l := addrs(first, count)
			got, ok := num.ReadAddrs(num.AddrsText(l))
			if ok != want || ok && !slices.Equal(got, l) || !ok && len(got) > 0 {
				t.Errorf("ReadAddrs of %d from %#x on: %v, %v", count, first, got, ok)
			}
		}
	}
}

func TestReadAddrsReadsNothingElse(t *testing.T) {
	full := num.AddrsText(addrs(0x0a000001, 16))
	for _, s := range []string{
		"", ",", ",,", " ", "10.0.0.1,", ",10.0.0.1", "10.0.0.1,,10.0.0.2", "10.0.0.1,10.0.0.2,", ",10.0.0.1,10.0.0.2", "10.0.0.1,,",
		"10.0.0.2,10.0.0.1", "10.0.0.1,10.0.0.1", "10.0.0.0,9.0.0.0", "128.0.0.0,127.0.0.0", "255.255.255.255,0.0.0.0", "1.1.1.1,3.3.3.3,2.2.2.2", "2.2.2.2,1.1.1.1,3.3.3.3",
		"1.1.1.1,2.2.2.2,2.2.2.2", "1.1.1.1,1.1.1.1,2.2.2.2", "0.0.0.0,0.0.0.0", "255.255.255.255,255.255.255.255", "0.0.0.2,0.0.1.0,0.0.0.255",
		"10.0.0.01", "10.0.0.1,10.0.0.02", "010.0.0.1", "10.0.0.256", "10.0.0.1,10.0.0.256", "10.0.0", "10.0.0.1,10.0.0", "10.0.0.1.2", "+10.0.0.1", "-10.0.0.1", "10.0.0.1,-10.0.0.2",
		"10.0.0.1, 10.0.0.2", "10.0.0.1 ,10.0.0.2", " 10.0.0.1", "10.0.0.1 ", "10.0.0.1\n", "10.0.0.1 10.0.0.2", "10.0.0.1;10.0.0.2", "10.0.0.1\x00",
		"1,2", "1", "167772161", "10.0.0.1,2", "10.0.0.1/24", "10.0.0.1,10.0.0.2/24", "a", "a,b", "10.0.0.a", "::1", "10.0.0.1,::2", "-",
		full + ",10.0.0.17", full + ",", "," + full, full + ",10.0.0.16", full + ",a", full + ",10.0.0.17,", full + "," + full,
		strings.Repeat("10.0.0.1,", 1000), strings.Repeat(",", 1<<20), num.AddrsText(addrs(0, 4094)),
	} {
		if got, ok := num.ReadAddrs(s); ok || len(got) > 0 {
			t.Errorf("ReadAddrs(%q) = %v, %v", s, got, ok)
		}
	}
}

// Each byte of a text is put to each value, left out, and written twice.
func TestReadAddrsReadsJustTexts(t *testing.T) {
	for _, text := range []string{"10.0.0.1", "9.0.0.0,10.0.0.0", "0.0.0.0,127.255.0.1,255.255.255.255", num.AddrsText(addrs(1, 16))} {
		for at := range text {
			heldAddrs(t, text[:at]+text[at+1:])
			heldAddrs(t, text[:at])
			for c := range 256 {
				b := string([]byte{byte(c)})
				heldAddrs(t, text[:at]+b+text[at+1:])
				heldAddrs(t, text[:at]+b+text[at:])
			}
		}
	}
}

// heldAddrs holds ReadAddrs against the library, and against AddrsText.
func heldAddrs(t *testing.T, s string) {
	t.Helper()
	got, ok := num.ReadAddrs(s)
	words := strings.Split(s, ",")
	may := len(words) <= 16
	var last netip.Addr
	for _, w := range words {
		a, err := netip.ParseAddr(w)
		may = may && err == nil && a.Is4() && a.Compare(last) > 0
		last = a
	}
	if ok != may || !ok && len(got) > 0 {
		t.Fatalf("ReadAddrs(%q) = %v, %v", s, got, ok)
	}
	if ok && num.AddrsText(got) != s {
		t.Fatalf("ReadAddrs(%q) = %v", s, got)
	}
}

func TestAddrsAreLeftAndNew(t *testing.T) {
	room := addrs(1, 20)
	for n := range 20 {
		num.AddrsText(room[:n])
	}
	if !slices.Equal(room, addrs(1, 20)) {
		t.Errorf("what is handed in is changed: %v", room)
	}
	first, _ := num.ReadAddrs("0.0.0.1,0.0.0.2,0.0.0.3")
	second, _ := num.ReadAddrs("0.0.0.1,0.0.0.2,0.0.0.3")
	_ = append(first, 8)
	first[0] = 9
	if second[0] != 1 {
		t.Error("two lists share their memory")
	}
}

// P3.4

func TestNameIsOneTo12Bytes(t *testing.T) {
	if api.MaxName != 12 {
		t.Errorf("MaxName is %d", api.MaxName)
	}
	for n := range 40 {
		want := n >= 1 && n <= 12
		for _, s := range []string{strings.Repeat("a", n), strings.Repeat("z", n), "abcdefghijklmnopqrstuvwxyzabcdefghijklmn"[:n], "q123456789012345678901234567890123456789"[:n]} {
			if got := num.Name(s); got != want {
				t.Errorf("Name(%q): %v", s, got)
			}
		}
	}
	if num.Name(strings.Repeat("a", 1<<20)) || num.Name(strings.Repeat("a", 256+5)) {
		t.Error("Name of many bytes")
	}
}

func TestNameIsLettersAndDigits(t *testing.T) {
	for s, want := range map[string]bool{
		"a": true, "z": true, "sw1": true, "red": true, "p10": true, "a0": true, "a9": true, "a00": true, "x1y2z3": true, "abcdefghijkl": true, "a12345678901": true,
		"": false, "1": false, "1a": false, "0a": false, "9": false, "A": false, "Sw1": false, "sW1": false, "sw1A": false,
		"a-b": false, "a_b": false, "a.b": false, "a b": false, " a": false, "a ": false, "-": false, "-a": false, "_a": false, "a-": false, "a/": false, "a#": false,
		"a\n": false, "\na": false, "a\x00": false, "\x00": false, "é": false, "aé": false, "a١": false, "ａ": false, "a\xff": false, "\xe1": false,
		"abcdefghijklm": false, "a123456789012": false, "abcdefghijk-": false, "abcdefghijkL": false, "-bcdefghijkl": false,
	} {
		if got := num.Name(s); got != want {
			t.Errorf("Name(%q): %v", s, got)
		}
	}
}

// Each byte of names of each length is put to each value.
func TestNameHasNoOtherByte(t *testing.T) {
	const text = "qwertyuiopas"
	for n := 1; n <= len(text); n++ {
		for at := range n {
			for c := range 256 {
				b := []byte(text[:n])
				b[at] = byte(c)
				want := c >= 'a' && c <= 'z' || at > 0 && c >= '0' && c <= '9'
				if got := num.Name(string(b)); got != want {
					t.Fatalf("Name(%q): %v", b, got)
				}
			}
		}
	}
}

// P3.5

func TestWhatIsWrittenIsRead(t *testing.T) {
	for _, n := range some() {
		may := n >= -tenDigits && n <= tenDigits
		got, ok := num.Read(num.Text(n), least, most)
		if ok != may || ok && got != n || !ok && got != 0 {
			t.Errorf("Read(Text(%d)) = %d, %v", n, got, ok)
		}
		if got, ok := num.Read(num.Text(n), n, n); ok != may || ok && got != n {
			t.Errorf("Read(Text(%d)) from it to it: %d, %v", n, got, ok)
		}
	}
	for n := -70000; n <= 70000; n++ {
		if got, ok := num.Read(num.Text(n), -70000, 70000); !ok || got != n {
			t.Fatalf("Read(Text(%d)) = %d, %v", n, got, ok)
		}
	}
}

func TestListsThatAreWrittenAreRead(t *testing.T) {
	numbers := []int{-tenDigits, math.MinInt32, -4094, -10, -9, -1, 0, 1, 9, 10, 99, 100, 4094, 65535, math.MaxInt32, tenDigits}
	some := []uint32{0, 1, 255, 256, 1 << 16, 1 << 24, 0x09ffffff, 0x0a000000, 0x0a000001, 0x63000000, 0x64000000, math.MaxInt32, 1 << 31, 0xc0a80001, math.MaxUint32 - 1, math.MaxUint32}
	for set := 1; set < 1<<16; set++ {
		var l []int
		var m []uint32
		for i := range 16 {
			if set>>i&1 == 1 {
				l = append(l, numbers[i])
				m = append(m, some[i])
			}
		}
		if !num.Rising(l, -tenDigits, tenDigits) {
			t.Fatalf("Rising of %v", l)
		}
		if got, ok := num.ReadList(num.ListText(l), -tenDigits, tenDigits); !ok || !slices.Equal(got, l) {
			t.Fatalf("ReadList of the text of %v: %v, %v", l, got, ok)
		}
		if got, ok := num.ReadAddrs(num.AddrsText(m)); !ok || !slices.Equal(got, m) {
			t.Fatalf("ReadAddrs of the text of %v: %v, %v", m, got, ok)
		}
	}
}
