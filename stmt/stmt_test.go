package stmt_test

import (
	"encoding/hex"
	"math"
	"net/netip"
	"reflect"
	"regexp"
	"slices"
	"strconv"
	"strings"
	"testing"
	"unsafe"

	"paling/api"
	"paling/stmt"
)

const (
	mostVlan  = 4094
	mostShort = 65535
	mostVni   = 16777215
	mostList  = 16
	mostName  = 12
)

// rows are numbers of rows: any is kept.
var rows = []int{3, 0, 1, 400, 401, -1, math.MaxInt, math.MinInt}

// goods are lines that may be, of each kind, and of a port in each form.
var goods = []struct {
	text string
	line api.Line
}{
	{"device sw1 32768 00:00:00:00:00:01", api.Line{Kind: 1, Dev: "sw1", Num: 32768, Mac: 1}},
	{"port sw1 p1 4 access 10", api.Line{Kind: 2, Dev: "sw1", Port: "p1", Cost: 4, Vlan: 10}},
	{"port sw1 p1 4 trunk 10 -", api.Line{Kind: 2, Dev: "sw1", Port: "p1", Cost: 4, Vlan: 10}},
	{"port sw1 p1 4 trunk - 10,20", api.Line{Kind: 2, Dev: "sw1", Port: "p1", Cost: 4, Tagged: []int{10, 20}}},
	{"port sw1 p1 4 trunk 30 10,20", api.Line{Kind: 2, Dev: "sw1", Port: "p1", Cost: 4, Vlan: 30, Tagged: []int{10, 20}}},
	{"link a p1 b p2", api.Line{Kind: 3, Dev: "a", Port: "p1", Peer: "b", Far: "p2"}},
	{"static a 10 00:00:00:00:00:02 p1", api.Line{Kind: 4, Dev: "a", Vlan: 10, Mac: 2, Port: "p1"}},
	{"vtep a 10.0.0.1", api.Line{Kind: 5, Dev: "a", Addr: 0x0a000001}},
	{"vni a 10 5010", api.Line{Kind: 6, Dev: "a", Vlan: 10, Num: 5010}},
	{"flood a 5010 10.0.0.1,10.0.0.2", api.Line{Kind: 7, Dev: "a", Num: 5010, Addrs: []uint32{0x0a000001, 0x0a000002}}},
	{"vrf a red 1,2 7,8,9", api.Line{Kind: 8, Dev: "a", Name: "red", Imports: []int{1, 2}, Exports: []int{7, 8, 9}}},
	{"vrf a red - -", api.Line{Kind: 8, Dev: "a", Name: "red"}},
	{"irb a 10 red 10.0.0.1/24", api.Line{Kind: 9, Dev: "a", Vlan: 10, Name: "red", Addr: 0x0a000001, Bits: 24}},
}

// forms are what the words behind each first one are to be; of a port in both forms.
var forms = [][]string{
	{"device", "name", "priority", "mac"},
	{"port", "name", "name", "short", "mode", "vlan"},
	{"port", "name", "name", "short", "mode", "vlan or -", "vlans or -"},
	{"link", "name", "name", "name", "name"},
	{"static", "name", "vlan", "mac", "name"},
	{"vtep", "name", "addr"},
	{"vni", "name", "vlan", "vni"},
	{"flood", "name", "vni", "addrs"},
	{"vrf", "name", "name", "shorts or -", "shorts or -"},
	{"irb", "name", "vlan", "name", "prefix"},
}

// formOf is the form of good words.
func formOf(words []string) []string {
	for _, form := range forms {
		if form[0] == words[0] && len(form) == len(words) {
			return form
		}
	}
	return nil
}

// The chapter's words, by the language's own library.

var (
	aName   = regexp.MustCompile(`\A[a-z][a-z0-9]{0,11}\z`)
	aNumber = regexp.MustCompile(`\A(0|[1-9][0-9]{0,9})\z`)
	aMac    = regexp.MustCompile(`\A[0-9a-f]{2}(:[0-9a-f]{2}){5}\z`)
)

func saidNumber(s string, least, most int) (int, bool) {
	n, err := strconv.ParseInt(s, 10, 64)
	if !aNumber.MatchString(s) || err != nil || n < int64(least) || n > int64(most) {
		return 0, false
	}
	return int(n), true
}

func saidList(s string, least, most int) ([]int, bool) {
	var l []int
	for _, word := range strings.Split(s, ",") {
		n, ok := saidNumber(word, least, most)
		if !ok || len(l) > 0 && n <= l[len(l)-1] {
			return nil, false
		}
		l = append(l, n)
	}
	return l, len(l) <= mostList
}

func saidMac(s string) (uint64, bool) {
	if !aMac.MatchString(s) {
		return 0, false
	}
	b, _ := hex.DecodeString(strings.ReplaceAll(s, ":", ""))
	var m uint64
	for _, c := range b {
		m = m*256 + uint64(c)
	}
	return m, b[0]%2 == 0 && !(b[0] == 2 && b[1] == 0)
}

func saidAddr(s string) (uint32, bool) {
	a, err := netip.ParseAddr(s)
	if err != nil || !a.Is4() {
		return 0, false
	}
	b := a.As4()
	n := uint32(b[0])<<24 | uint32(b[1])<<16 | uint32(b[2])<<8 | uint32(b[3])
	return n, n != 0
}

func saidAddrs(s string) ([]uint32, bool) {
	var l []uint32
	for _, word := range strings.Split(s, ",") {
		a, ok := saidAddr(word)
		if !ok || len(l) > 0 && a <= l[len(l)-1] {
			return nil, false
		}
		l = append(l, a)
	}
	return l, len(l) <= mostList
}

func saidPrefix(s string) (uint32, int, bool) {
	p, err := netip.ParsePrefix(s)
	if err != nil || !p.Addr().Is4() || p.Bits() < 1 || p.Bits() > 30 {
		return 0, 0, false
	}
	b := p.Addr().As4()
	a := uint32(b[0])<<24 | uint32(b[1])<<16 | uint32(b[2])<<8 | uint32(b[3])
	behind := a % (1 << (32 - p.Bits()))
	return a, p.Bits(), behind != 0 && behind != 1<<(32-p.Bits())-1
}

// saidForm is the form that words are held against, none where there are not as many as it has.
func saidForm(words []string) []string {
	for _, form := range forms {
		if len(words) != len(form) || words[0] != form[0] {
			continue
		}
		if form[0] == "port" && (words[4] == "access" && len(form) != 6 || words[4] == "trunk" && len(form) != 7) {
			continue
		}
		return form
	}
	return nil
}

// saidWord reads a word that is to be something, and tells what it says.
func saidWord(want, s string) (v any, ok bool) {
	if rest, may := strings.CutSuffix(want, " or -"); may {
		if s == "-" {
			return nil, true
		}
		want = rest
	}
	switch want {
	case "name":
		return s, aName.MatchString(s)
	case "mode":
		return nil, s == "access" || s == "trunk"
	case "priority":
		return both(saidNumber(s, 0, mostShort))
	case "short":
		return both(saidNumber(s, 1, mostShort))
	case "vlan":
		return both(saidNumber(s, 1, mostVlan))
	case "vni":
		return both(saidNumber(s, 1, mostVni))
	case "vlans":
		return both(saidList(s, 1, mostVlan))
	case "shorts":
		return both(saidList(s, 1, mostShort))
	case "mac":
		return both(saidMac(s))
	case "addr":
		return both(saidAddr(s))
	case "addrs":
		return both(saidAddrs(s))
	}
	a, bits, ok := saidPrefix(s)
	return api.Prefix{Addr: a, Bits: bits}, ok
}

func both[T any](v T, ok bool) (any, bool) { return v, ok }

// goesTo are the fields that the words of each kind go to, as the chapter names them.
var goesTo = map[string][]string{
	"device": {"Dev", "Num", "Mac"},
	"port":   {"Dev", "Port", "Cost", "", "Vlan", "Tagged"},
	"link":   {"Dev", "Port", "Peer", "Far"},
	"static": {"Dev", "Vlan", "Mac", "Port"},
	"vtep":   {"Dev", "Addr"},
	"vni":    {"Dev", "Vlan", "Num"},
	"flood":  {"Dev", "Num", "Addrs"},
	"vrf":    {"Dev", "Name", "Imports", "Exports"},
	"irb":    {"Dev", "Vlan", "Name", "Addr and Bits"},
}

// kinds are the kinds of lines, by their first words.
var kinds = map[string]int{"device": 1, "port": 2, "link": 3, "static": 4, "vtep": 5, "vni": 6, "flood": 7, "vrf": 8, "irb": 9}

// saidLine reads words by the chapter's words.
func saidLine(words []string, row int) (api.Line, api.Errno) {
	form := saidForm(words)
	if form == nil {
		return api.Line{}, api.ErrLine
	}
	l := api.Line{Row: row, Kind: kinds[words[0]]}
	for i, want := range form[1:] {
		v, ok := saidWord(want, words[1+i])
		if !ok && (want == "name" || want == "mode") {
			return api.Line{}, api.ErrWord
		}
		if !ok {
			return api.Line{}, api.ErrNumber
		}
		if p, pair := v.(api.Prefix); pair {
			l.Addr, l.Bits = p.Addr, p.Bits
		} else if v != nil {
			reflect.ValueOf(&l).Elem().FieldByName(goesTo[words[0]][i]).Set(reflect.ValueOf(v))
		}
	}
	if words[0] == "port" && (l.Vlan == 0 && len(l.Tagged) == 0 || slices.Contains(l.Tagged, l.Vlan)) {
		return api.Line{}, api.ErrNumber
	}
	return l, api.OK
}

// alike tells whether two lines are alike in each field, lists that have nothing too.
func alike(a, b api.Line) bool {
	x, y := reflect.ValueOf(a), reflect.ValueOf(b)
	for i := range x.NumField() {
		if l := x.Field(i); l.Kind() == reflect.Slice && l.Len() == 0 && y.Field(i).Len() == 0 {
			continue
		}
		if !reflect.DeepEqual(x.Field(i).Interface(), y.Field(i).Interface()) {
			return false
		}
	}
	return true
}

// held holds Read, and P11.3, against the chapter's words.
func held(t *testing.T, row int, words ...string) {
	t.Helper()
	got, e := stmt.Read(words, row)
	want, not := saidLine(words, row)
	if e != not || !alike(got, want) {
		t.Fatalf("Read(%.300q, %d): %+v, %d; not %+v, %d", words, row, got, e, want, not)
	}
	if stmt.Right(got) != (not == api.OK) {
		t.Fatalf("Right of what is read of %.300q: %v", words, not != api.OK)
	}
}

// isRead asks that words are just this line.
func isRead(t *testing.T, text string, want api.Line) {
	t.Helper()
	for _, row := range rows {
		want.Row = row
		if got, e := stmt.Read(strings.Fields(text), row); e != api.OK || !alike(got, want) {
			t.Errorf("%s: %+v, %d; not %+v", text, got, e, want)
		}
	}
	held(t, 3, strings.Fields(text)...)
}

// isRefused asks that words are refused, with nothing beside the error.
func isRefused(t *testing.T, want api.Errno, words ...string) {
	t.Helper()
	if got, e := stmt.Read(words, 3); e != want || !reflect.ValueOf(got).IsZero() {
		t.Errorf("Read(%.300q): %+v, %d; not %d", words, got, e, want)
	}
	held(t, 3, words...)
}

// refuses asks that a text of words is refused.
func refuses(t *testing.T, want api.Errno, text string) {
	t.Helper()
	isRefused(t, want, strings.Fields(text)...)
}

// P11.1

func TestReadReadsEachLine(t *testing.T) {
	for _, c := range goods {
		isRead(t, c.text, c.line)
	}
}

func TestReadRefusesWhatBeginsNoLine(t *testing.T) {
	for _, words := range [][]string{nil, {}, {""}, {"", ""}, make([]string, 4), make([]string, 7)} {
		isRefused(t, api.ErrLine, words...)
	}
	for _, c := range goods {
		words := strings.Fields(c.text)
		first := words[0]
		for _, other := range []string{
			"", " ", "-", "#", "what", "Line", "access", "trunk", strings.ToUpper(first), strings.ToUpper(first[:1]) + first[1:], first + " ", " " + first,
			first + "s", first + "\n", first + "\x00", first[1:], first[:len(first)-1], first + first, "0", "1", strconv.Itoa(kinds[first]), strings.Repeat(first, 1<<10),
		} {
			isRefused(t, api.ErrLine, append([]string{other}, words[1:]...)...)
		}
	}
	// Nine words begin a line, and each makes it one of its own kind.
	for first, kind := range kinds {
		for _, c := range goods {
			words := strings.Fields(c.text)
			if words[0] = first; words[0] != strings.Fields(c.text)[0] {
				held(t, 3, words...)
			}
			if got, e := stmt.Read(words, 3); e == api.OK && got.Kind != kind {
				t.Errorf("%q is of the kind %d", words, got.Kind)
			}
		}
	}
}

// Fewer words and more, good ones and wrong ones: how many there are is asked ahead of what they are.
func TestReadRefusesFewerWordsAndMore(t *testing.T) {
	for _, c := range goods {
		words := strings.Fields(c.text)
		for n := 1; n <= 12; n++ {
			if n == len(words) {
				continue
			}
			for _, filler := range []string{"a", "10", "-", "", "A", "10,20", "10.0.0.1", "10.0.0.1/24", "00:00:00:00:00:01"} {
				some := slices.Clone(words[:min(n, len(words))])
				for len(some) < n {
					some = append(some, filler)
				}
				isRefused(t, api.ErrLine, some...)
				for at := 1; at < len(some); at++ {
					if words[0] != "port" || at != 4 {
						wrong := slices.Clone(some)
						wrong[at] = "#"
						isRefused(t, api.ErrLine, wrong...)
					}
				}
			}
		}
		isRefused(t, api.ErrLine, append(words, make([]string, 1<<16)...)...)
	}
}

func TestReadOfAPortThatIsNeitherAccessNorTrunk(t *testing.T) {
	for _, mode := range []string{"what", "", "-", "10", "Access", "ACCESS", "acces", "accesss", "Trunk", "trun", "trunks", "access ", " trunk", "access\x00", "accesstrunk", "trunk,access", "port"} {
		isRefused(t, api.ErrLine, "port", "a", "p", "1", mode)
		isRefused(t, api.ErrWord, "port", "a", "p", "1", mode, "10")
		isRefused(t, api.ErrWord, "port", "a", "p", "1", mode, "10", "20")
		isRefused(t, api.ErrLine, "port", "a", "p", "1", mode, "10", "20", "30")
		// What stands ahead is told first, what stands behind is not asked.
		isRefused(t, api.ErrWord, "port", "A", "p", "0", mode, "10")
		isRefused(t, api.ErrWord, "port", "a", "P", "0", mode, "10", "20")
		isRefused(t, api.ErrNumber, "port", "a", "p", "0", mode, "10")
		isRefused(t, api.ErrNumber, "port", "a", "p", "0", mode, "10", "20")
		for _, wrong := range []string{"0", "-", "a", "", "4095"} {
			isRefused(t, api.ErrWord, "port", "a", "p", "1", mode, wrong)
			isRefused(t, api.ErrWord, "port", "a", "p", "1", mode, wrong, wrong)
			isRefused(t, api.ErrWord, "port", "a", "p", "1", mode, "10", "10")
			isRefused(t, api.ErrLine, "port", wrong, wrong, wrong, mode)
			isRefused(t, api.ErrLine, "port", wrong, wrong, wrong, mode, wrong, wrong, wrong)
		}
	}
	for n := range 12 {
		words := []string{"port", "a", "p", "1", "access", "10", "20", "30", "40", "50", "60", "70"}[:n]
		if n != 6 {
			isRefused(t, api.ErrLine, words...)
		}
		if n > 4 && n != 7 {
			words[4] = "trunk"
			isRefused(t, api.ErrLine, words...)
		}
	}
}

// wrongs are words that are none of what a word is to be.
func wrongs(want string) []string {
	long := strings.Repeat("9", 1<<16)
	never := []string{"", " ", "#", "\x00", "\xff", ",", ".", "/", ":", "+1", "1 ", " 1", "1a", "01", "1.5", "A", "a b", "_", "\u00e4", "--", "-1", "10,", ",10", "10,,20", long, long + "a", "-" + long}
	some := map[string][]string{
		"name":     {"-", "1", "Sw", "sW", "sw-1", "sw_1", "9a", "a\n", "\na", "abcdefghijklm", "abcdefghijkl1", strings.Repeat("a", 1<<16), "a.b", "a,b", "10", "10,20", "10.0.0.1"},
		"mode":     {"-", "what", "Access", "trunk,", "10", "a"},
		"priority": {"-", "65536", "99999", "4294967296", "10000000000", "a", "00", "0x1", "1,2", "18446744073709551616"},
		"short":    {"-", "0", "65536", "4294967297", "10000000000", "18446744073709551617", "a", "00", "0x1", "1,2"},
		"vlan":     {"-", "0", "4095", "4096", "65536", "65537", "4294967297", "18446744073709551617", "a", "00", "0x1", "1,2"},
		"vni":      {"-", "0", "16777216", "16777217", "4294967297", "18446744073709551617", "a", "00", "0x1", "1,2"},
		"vlans":    {"0", "0,1", "4095", "1,4095", "20,10", "10,10", "1,3,2", "a", "1,a", "1, 2", "1;2", "1-2", "-,-", "-,1", "1,-", "1,2,3,4,5,6,7,8,9,10,11,12,13,14,15,16,17"},
		"shorts":   {"0", "0,1", "65536", "1,65536", "20,10", "10,10", "1,3,2", "a", "1,a", "1, 2", "1;2", "1-2", "-,-", "-,1", "1,-", "1,2,3,4,5,6,7,8,9,10,11,12,13,14,15,16,17"},
		"mac": {"-", "1", "00:00", "00:00:00:00:00", "00:00:00:00:00:00:00", "00-00-00-00-00-01", "000000000001", "00:00:00:00:00:0g", "00:00:00:00:00:0A", "0:0:0:0:0:1", "00:00:00:00:00:01 ",
			"01:00:00:00:00:00", "ff:ff:ff:ff:ff:ff", "03:00:00:00:00:01", "02:00:00:00:00:00", "02:00:0a:00:00:01", "02:00:ff:ff:ff:ff", "01:00:5e:00:00:01", "33:33:00:00:00:01"},
		"addr":   {"-", "0", "1", "0.0.0.0", "10.0.0", "10.0.0.0.1", "10.0.0.256", "10.0.0.01", "10.0.0.1/24", "10.0.0.1,10.0.0.2", "::1", "a"},
		"addrs":  {"-", "0", "1", "0.0.0.0", "0.0.0.0,10.0.0.1", "10.0.0.2,10.0.0.1", "10.0.0.1,10.0.0.1", "10.0.0.1,", ",10.0.0.1", "10.0.0.1,0.0.0.0", "10.0.0.1,10.0.0.256", "10.0.0.1, 10.0.0.2", "10.0.0.1/24", "a", "10.0.0.1,-", many(17)},
		"prefix": {"-", "1", "10.0.0.1", "10.0.0.1/", "/24", "10.0.0.1/0", "10.0.0.1/31", "10.0.0.1/32", "10.0.0.1/33", "10.0.0.1/024", "10.0.0.1/-1", "10.0.0.0/24", "10.0.0.255/24", "10.0.0.1/24/24", "0.0.0.0/0", "10.0.0.256/24", "10.0.0.1,10.0.0.2", "a", "::1/24"},
	}
	rest, optional := strings.CutSuffix(want, " or -")
	l := append(never, some[rest]...)
	if optional {
		l = slices.DeleteFunc(l, func(word string) bool { return word == "-" })
	}
	return l
}

// many is a list of so many addresses.
func many(n int) string {
	var l []string
	for i := range n {
		l = append(l, "10.0.0."+strconv.Itoa(i+1))
	}
	return strings.Join(l, ",")
}

// errorOf is what a wrong word is told as.
func errorOf(want string) api.Errno {
	if want == "name" || want == "mode" {
		return api.ErrWord
	}
	return api.ErrNumber
}

func TestReadRefusesEachWrongWord(t *testing.T) {
	for _, c := range goods {
		words := strings.Fields(c.text)
		form := formOf(words)
		for at := 1; at < len(words); at++ {
			for _, wrong := range wrongs(form[at]) {
				bad := slices.Clone(words)
				bad[at] = wrong
				isRefused(t, errorOf(form[at]), bad...)
			}
		}
	}
}

func TestReadTellsTheWrongWordFurthestLeft(t *testing.T) {
	for _, c := range goods {
		words := strings.Fields(c.text)
		form := formOf(words)
		for at := 1; at < len(words); at++ {
			for also := at + 1; also < len(words); also++ {
				for i, wrong := range wrongs(form[at]) {
					bad := slices.Clone(words)
					bad[at] = wrong
					bad[also] = wrongs(form[also])[i%len(wrongs(form[also]))]
					isRefused(t, errorOf(form[at]), bad...)
				}
			}
		}
	}
	refuses(t, api.ErrWord, "device Sw x 00:00")
	refuses(t, api.ErrNumber, "static a 0 00:00:00:00:00:02 P")
	refuses(t, api.ErrNumber, "irb a 0 RED 10.0.0.0/24")
	refuses(t, api.ErrWord, "irb a 10 RED 10.0.0.0/24")
	refuses(t, api.ErrWord, "port a P 0 what 0")
	refuses(t, api.ErrNumber, "port a p 0 what 0")
	refuses(t, api.ErrWord, "port A p 1 trunk 10 10,20")
}

func TestReadReadsNames(t *testing.T) {
	for _, s := range []string{"a", "z", "a0", "z9", "sw1", "abcdefghijkl", "a12345678901", "device", "port", "access", "trunk"} {
		isRead(t, "device "+s+" 1 00:00:00:00:00:01", api.Line{Kind: 1, Dev: s, Num: 1, Mac: 1})
		isRead(t, "port "+s+" q 1 access 10", api.Line{Kind: 2, Dev: s, Port: "q", Cost: 1, Vlan: 10})
		isRead(t, "port q "+s+" 1 trunk - 10", api.Line{Kind: 2, Dev: "q", Port: s, Cost: 1, Tagged: []int{10}})
		isRead(t, "link "+s+" q r s", api.Line{Kind: 3, Dev: s, Port: "q", Peer: "r", Far: "s"})
		isRead(t, "link q "+s+" r s", api.Line{Kind: 3, Dev: "q", Port: s, Peer: "r", Far: "s"})
		isRead(t, "link q r "+s+" s", api.Line{Kind: 3, Dev: "q", Port: "r", Peer: s, Far: "s"})
		isRead(t, "link q r s "+s, api.Line{Kind: 3, Dev: "q", Port: "r", Peer: "s", Far: s})
		isRead(t, "static "+s+" 1 00:00:00:00:00:02 q", api.Line{Kind: 4, Dev: s, Vlan: 1, Mac: 2, Port: "q"})
		isRead(t, "static q 1 00:00:00:00:00:02 "+s, api.Line{Kind: 4, Dev: "q", Vlan: 1, Mac: 2, Port: s})
		isRead(t, "vtep "+s+" 0.0.0.1", api.Line{Kind: 5, Dev: s, Addr: 1})
		isRead(t, "vni "+s+" 1 2", api.Line{Kind: 6, Dev: s, Vlan: 1, Num: 2})
		isRead(t, "flood "+s+" 1 0.0.0.2", api.Line{Kind: 7, Dev: s, Num: 1, Addrs: []uint32{2}})
		isRead(t, "vrf "+s+" q 1 2", api.Line{Kind: 8, Dev: s, Name: "q", Imports: []int{1}, Exports: []int{2}})
		isRead(t, "vrf q "+s+" 1 2", api.Line{Kind: 8, Dev: "q", Name: s, Imports: []int{1}, Exports: []int{2}})
		isRead(t, "irb "+s+" 1 q 10.0.0.1/8", api.Line{Kind: 9, Dev: s, Vlan: 1, Name: "q", Addr: 0x0a000001, Bits: 8})
		isRead(t, "irb q 1 "+s+" 10.0.0.1/8", api.Line{Kind: 9, Dev: "q", Vlan: 1, Name: s, Addr: 0x0a000001, Bits: 8})
	}
	for n := range 2 * mostName {
		s := strings.Repeat("a", n)
		for _, c := range goods {
			words := strings.Fields(c.text)
			for at, want := range formOf(words) {
				if want == "name" {
					words[at] = s
				}
			}
			held(t, 3, words...)
			if _, e := stmt.Read(words, 3); (e == api.OK) != (n >= 1 && n <= mostName) {
				t.Errorf("%q: %d", words, e)
			}
		}
	}
}

// Each number's least and greatest value, one below, and one beyond, and values around.
func TestReadReadsNumbersOfTheirRanges(t *testing.T) {
	for _, c := range []struct {
		ahead, behind string
		least, most   int
		line          func(n int) api.Line
	}{
		{"device a ", " 00:00:00:00:00:01", 0, mostShort, func(n int) api.Line { return api.Line{Kind: 1, Dev: "a", Num: n, Mac: 1} }},
		{"port a p ", " access 10", 1, mostShort, func(n int) api.Line { return api.Line{Kind: 2, Dev: "a", Port: "p", Cost: n, Vlan: 10} }},
		{"port a p ", " trunk 10 20", 1, mostShort, func(n int) api.Line {
			return api.Line{Kind: 2, Dev: "a", Port: "p", Cost: n, Vlan: 10, Tagged: []int{20}}
		}},
		{"port a p 1 access ", "", 1, mostVlan, func(n int) api.Line { return api.Line{Kind: 2, Dev: "a", Port: "p", Cost: 1, Vlan: n} }},
		{"port a p 1 trunk ", " -", 1, mostVlan, func(n int) api.Line { return api.Line{Kind: 2, Dev: "a", Port: "p", Cost: 1, Vlan: n} }},
		{"port a p 1 trunk ", " 77", 1, mostVlan, func(n int) api.Line {
			return api.Line{Kind: 2, Dev: "a", Port: "p", Cost: 1, Vlan: n, Tagged: []int{77}}
		}},
		{"port a p 1 trunk - ", "", 1, mostVlan, func(n int) api.Line { return api.Line{Kind: 2, Dev: "a", Port: "p", Cost: 1, Tagged: []int{n}} }},
		{"static a ", " 00:00:00:00:00:02 p", 1, mostVlan, func(n int) api.Line { return api.Line{Kind: 4, Dev: "a", Vlan: n, Mac: 2, Port: "p"} }},
		{"vni a ", " 5010", 1, mostVlan, func(n int) api.Line { return api.Line{Kind: 6, Dev: "a", Vlan: n, Num: 5010} }},
		{"vni a 10 ", "", 1, mostVni, func(n int) api.Line { return api.Line{Kind: 6, Dev: "a", Vlan: 10, Num: n} }},
		{"flood a ", " 10.0.0.1", 1, mostVni, func(n int) api.Line { return api.Line{Kind: 7, Dev: "a", Num: n, Addrs: []uint32{0x0a000001}} }},
		{"vrf a red ", " -", 1, mostShort, func(n int) api.Line { return api.Line{Kind: 8, Dev: "a", Name: "red", Imports: []int{n}} }},
		{"vrf a red - ", "", 1, mostShort, func(n int) api.Line { return api.Line{Kind: 8, Dev: "a", Name: "red", Exports: []int{n}} }},
		{"irb a ", " red 10.0.0.1/24", 1, mostVlan, func(n int) api.Line {
			return api.Line{Kind: 9, Dev: "a", Vlan: n, Name: "red", Addr: 0x0a000001, Bits: 24}
		}},
	} {
		for _, n := range []int{c.least, c.least + 1, c.most - 1, c.most, 2, 9, 99, 100, 1000} {
			isRead(t, c.ahead+strconv.Itoa(n)+c.behind, c.line(n))
		}
		for _, n := range []int{c.least - 1, c.least - 2, c.most + 1, c.most + 2, c.most * 2, -c.most, 1 << 32, 1<<32 + 1, -1 << 32, math.MaxInt, math.MinInt} {
			refuses(t, api.ErrNumber, c.ahead+strconv.Itoa(n)+c.behind)
		}
		for _, wrong := range []string{"a", "+1", "01", "1.0", "0x1", "1,", "1e1"} {
			refuses(t, api.ErrNumber, c.ahead+wrong+c.behind)
		}
	}
}

func TestReadReadsAddressesOfNoGroupAndNoHost(t *testing.T) {
	for s, want := range map[string]uint64{
		"00:00:00:00:00:00": 0, "00:00:00:00:00:01": 1, "02:01:00:00:00:00": 0x020100000000, "02:01:00:00:00:01": 0x020100000001, "02:80:0a:00:00:01": 0x02800a000001,
		"00:ff:ff:ff:ff:ff": 0x00ffffffffff, "fe:ff:ff:ff:ff:ff": 0xfeffffffffff, "04:00:00:00:00:00": 0x040000000000, "06:00:0a:00:00:01": 0x06000a000001, "00:01:00:00:00:00": 0x000100000000,
		"82:00:00:00:00:01": 0x820000000001, "00:02:00:00:00:01": 0x000200000001, "08:00:2b:0a:bc:de": 0x08002b0abcde,
	} {
		isRead(t, "device a 1 "+s, api.Line{Kind: 1, Dev: "a", Num: 1, Mac: want})
		isRead(t, "static a 1 "+s+" p", api.Line{Kind: 4, Dev: "a", Vlan: 1, Mac: want, Port: "p"})
	}
	// Each first byte ahead of each kind of second one.
	for high := range 256 {
		for _, low := range []int{0, 1, 2, 128, 255} {
			s := hex.EncodeToString([]byte{byte(high)}) + ":" + hex.EncodeToString([]byte{byte(low)}) + ":0a:00:00:01"
			want := api.OK
			if high%2 == 1 || high == 2 && low == 0 {
				want = api.ErrNumber
			}
			for _, words := range [][]string{{"device", "a", "1", s}, {"static", "a", "1", s, "p"}} {
				if _, e := stmt.Read(words, 3); e != want {
					t.Errorf("%q: %d", words, e)
				}
				held(t, 3, words...)
			}
		}
	}
}

func TestReadReadsAddressesOtherThan0(t *testing.T) {
	for s, want := range map[string]uint32{
		"0.0.0.1": 1, "1.0.0.0": 1 << 24, "0.1.0.0": 1 << 16, "0.0.1.0": 1 << 8, "10.0.0.1": 0x0a000001, "127.0.0.1": 0x7f000001, "224.0.0.1": 0xe0000001, "255.255.255.255": math.MaxUint32, "128.0.0.0": 1 << 31,
	} {
		isRead(t, "vtep a "+s, api.Line{Kind: 5, Dev: "a", Addr: want})
		isRead(t, "flood a 1 "+s, api.Line{Kind: 7, Dev: "a", Num: 1, Addrs: []uint32{want}})
	}
	refuses(t, api.ErrNumber, "vtep a 0.0.0.0")
	refuses(t, api.ErrNumber, "flood a 1 0.0.0.0")
	refuses(t, api.ErrNumber, "flood a 1 0.0.0.0,0.0.0.1")
	refuses(t, api.ErrNumber, "flood a 1 0.0.0.1,0.0.0.0")
}

// Every port of a Vlan and a list that are there, or not.
func TestReadReadsVlanAndTaggedOfAPort(t *testing.T) {
	refuses(t, api.ErrNumber, "port a p 1 access -")
	refuses(t, api.ErrNumber, "port a p 1 trunk - -")
	refuses(t, api.ErrNumber, "port a p 1 trunk 10 10")
	refuses(t, api.ErrNumber, "port a p 1 trunk 10 10,20")
	refuses(t, api.ErrNumber, "port a p 1 trunk 20 10,20")
	refuses(t, api.ErrNumber, "port a p 1 trunk 20 10,20,30")
	refuses(t, api.ErrNumber, "port a p 1 trunk 0 10")
	refuses(t, api.ErrNumber, "port a p 1 trunk 0 -")
	refuses(t, api.ErrNumber, "port a p 1 trunk - 0")
	isRead(t, "port a p 1 trunk 1 -", api.Line{Kind: 2, Dev: "a", Port: "p", Cost: 1, Vlan: 1})
	isRead(t, "port a p 1 trunk - 1", api.Line{Kind: 2, Dev: "a", Port: "p", Cost: 1, Tagged: []int{1}})
	isRead(t, "port a p 1 trunk 1 2", api.Line{Kind: 2, Dev: "a", Port: "p", Cost: 1, Vlan: 1, Tagged: []int{2}})
	isRead(t, "port a p 1 trunk 2 1", api.Line{Kind: 2, Dev: "a", Port: "p", Cost: 1, Vlan: 2, Tagged: []int{1}})
	isRead(t, "port a p 1 trunk 4094 1,4093", api.Line{Kind: 2, Dev: "a", Port: "p", Cost: 1, Vlan: 4094, Tagged: []int{1, 4093}})
	for _, vlan := range []string{"-", "0", "1", "2", "3", "4", "5", "17", "4093", "4094", "4095", "a", "1,2"} {
		held(t, 3, "port", "a", "p", "1", "access", vlan)
		for _, tagged := range []string{"-", "0", "1", "2", "3", "1,2", "1,3", "2,3", "1,2,3", "2,3,4,5", "3,5,17", "1,4094", "4094", "4095", "2,1", "2,2", "a", "1,2,3,4,5,6,7,8,9,10,11,12,13,14,15,16", "2,3,4,5,6,7,8,9,10,11,12,13,14,15,16,17"} {
			held(t, 3, "port", "a", "p", "1", "trunk", vlan, tagged)
			held(t, 3, "port", "a", "p", "1", "access", vlan, tagged)
		}
	}
	// Vlan is each one of Tagged, and just beside each.
	l := []int{2, 4, 6, 8, 10, 12, 14, 16, 18, 20, 22, 24, 26, 28, 30, 32}
	for n := 1; n <= 34; n++ {
		words := []string{"port", "a", "p", "1", "trunk", strconv.Itoa(n), "2,4,6,8,10,12,14,16,18,20,22,24,26,28,30,32"}
		if _, e := stmt.Read(words, 3); (e == api.OK) == slices.Contains(l, n) {
			t.Errorf("%q: %d", words, e)
		}
		held(t, 3, words...)
	}
}

func TestReadReadsLists(t *testing.T) {
	texts := []string{"1", "2", "1,2", "1,3", "2,1", "1,1", "1,2,3", "3,2,1", "1,3,2", "1,2,2", "1,1,2", "0", "0,1", "1,0", "0,0", "-", "-,1", "", ",", "4094", "4095", "4094,4095", "65535", "65536", "1,65535", "1,65536", "10,9", "9,10", "99,100", "100,99", "01", "1,02", " 1", "1 ,2"}
	for n := range 20 {
		var up, behind []string
		for i := range n {
			up = append(up, strconv.Itoa(100+i))
			behind = append(behind, strconv.Itoa(4094-n+1+i))
		}
		texts = append(texts, strings.Join(up, ","), strings.Join(behind, ","))
	}
	for _, s := range texts {
		held(t, 3, "port", "a", "p", "1", "trunk", "-", s)
		held(t, 3, "port", "a", "p", "1", "trunk", "50", s)
		held(t, 3, "vrf", "a", "red", s, "-")
		held(t, 3, "vrf", "a", "red", "-", s)
		held(t, 3, "vrf", "a", "red", s, s)
		held(t, 3, "vrf", "a", "red", s, "5,6")
		held(t, 3, "vrf", "a", "red", "5,6", s)
	}
	for n := 1; n <= 18; n++ {
		var l []int
		var a []uint32
		for i := range n {
			l, a = append(l, 100+i), append(a, 0x0a000001+uint32(i))
		}
		text := listText(l)
		if n > mostList {
			refuses(t, api.ErrNumber, "port a p 1 trunk - "+text)
			refuses(t, api.ErrNumber, "vrf a red "+text+" -")
			refuses(t, api.ErrNumber, "vrf a red - "+text)
			refuses(t, api.ErrNumber, "flood a 1 "+many(n))
			continue
		}
		isRead(t, "port a p 1 trunk - "+text, api.Line{Kind: 2, Dev: "a", Port: "p", Cost: 1, Tagged: l})
		isRead(t, "port a p 1 trunk 9 "+text, api.Line{Kind: 2, Dev: "a", Port: "p", Cost: 1, Vlan: 9, Tagged: l})
		isRead(t, "vrf a red "+text+" -", api.Line{Kind: 8, Dev: "a", Name: "red", Imports: l})
		isRead(t, "vrf a red - "+text, api.Line{Kind: 8, Dev: "a", Name: "red", Exports: l})
		isRead(t, "flood a 1 "+many(n), api.Line{Kind: 7, Dev: "a", Num: 1, Addrs: a})
	}
	for _, s := range []string{"10.0.0.1", "10.0.0.1,10.0.0.2", "10.0.0.2,10.0.0.1", "10.0.0.1,10.0.0.1", "9.255.255.255,10.0.0.0", "10.0.0.0,9.255.255.255", "0.0.0.0", "0.0.0.1,255.255.255.255", "255.255.255.255,0.0.0.1", "10.0.0.1,10.0.0.3,10.0.0.2", "10.0.0.9,10.0.0.10", "10.0.0.10,10.0.0.9", "-", "", "10.0.0.1,", "10.0.0.1,-"} {
		held(t, 3, "flood", "a", "5010", s)
	}
}

// listText writes numbers with commas between.
func listText(l []int) string {
	var s []string
	for _, n := range l {
		s = append(s, strconv.Itoa(n))
	}
	return strings.Join(s, ",")
}

// Prefixes of each count of bits, whose address is the first, the last, beside one of them, and between.
func TestReadReadsPrefixesWithAnAddressBetween(t *testing.T) {
	for _, c := range []struct {
		text string
		addr uint32
		bits int
	}{
		{"10.0.0.1/24", 0x0a000001, 24}, {"10.0.0.254/24", 0x0a0000fe, 24}, {"10.0.0.7/24", 0x0a000007, 24}, {"10.0.0.1/30", 0x0a000001, 30}, {"10.0.0.2/30", 0x0a000002, 30}, {"10.0.0.5/29", 0x0a000005, 29},
		{"10.0.0.255/16", 0x0a0000ff, 16}, {"10.0.1.0/16", 0x0a000100, 16}, {"0.0.0.1/1", 1, 1}, {"127.255.255.254/1", 0x7ffffffe, 1}, {"128.0.0.1/1", 0x80000001, 1}, {"255.255.255.254/1", 0xfffffffe, 1}, {"0.0.0.1/30", 1, 30}, {"255.255.255.254/30", 0xfffffffe, 30},
	} {
		isRead(t, "irb a 10 red "+c.text, api.Line{Kind: 9, Dev: "a", Vlan: 10, Name: "red", Addr: c.addr, Bits: c.bits})
	}
	for _, s := range []string{
		"10.0.0.0/24", "10.0.0.255/24", "10.0.0.0/30", "10.0.0.3/30", "10.0.0.4/30", "0.0.0.0/1", "127.255.255.255/1", "128.0.0.0/1", "255.255.255.255/1", "0.0.0.0/30", "255.255.255.255/30",
		"10.0.0.1/0", "0.0.0.0/0", "255.255.255.255/0", "10.0.0.0/31", "10.0.0.1/31", "10.0.0.1/32", "10.0.0.1/33", "10.0.0.1/-1", "10.0.0.1/024", "10.0.0.1/24/", "10.0.0.1", "10.0.0.1/",
	} {
		refuses(t, api.ErrNumber, "irb a 10 red "+s)
	}
	for bits := range 40 {
		size := uint64(1) << max(32-bits, 0)
		for _, base := range []uint64{0, 0x0a000000, 0xc0a80100, 0x80000000, 0xffffffff} {
			first := base / size * size
			for _, a := range []uint64{first, first + 1, first + 2, first + size/2, first + size - 2, first + size - 1, first + size} {
				text := netip.AddrFrom4([4]byte{byte(a >> 24), byte(a >> 16), byte(a >> 8), byte(a)}).String() + "/" + strconv.Itoa(bits)
				held(t, 3, "irb", "a", "10", "red", text)
				within := a > first && a < first+size-1 && a <= math.MaxUint32
				if _, e := stmt.Read([]string{"irb", "a", "10", "red", text}, 3); within && (e == api.OK) != (bits >= 1 && bits <= 30) {
					t.Errorf("%s: %d", text, e)
				}
			}
		}
	}
}

// Words of a few kinds in each place behind each first word, in each number.
func TestReadOfAllLinesOfSomeWords(t *testing.T) {
	pool := []string{"a", "B", "10", "0", "4095", "-", "10,20", "access", "trunk", "00:00:00:00:00:02", "10.0.0.1", "10.0.0.1/24"}
	firsts := []string{"what", ""}
	for first := range kinds {
		firsts = append(firsts, first)
	}
	var grow func(words []string)
	grow = func(words []string) {
		held(t, 3, words...)
		if len(words) < 5 {
			for _, word := range pool {
				grow(append(slices.Clone(words), word))
			}
		}
	}
	for _, first := range firsts {
		grow([]string{first})
	}
	for _, name := range []string{"a", "B"} {
		for _, cost := range []string{"1", "0", "a"} {
			for _, mode := range []string{"access", "trunk", "what", "1", "-"} {
				for _, vlan := range pool {
					held(t, 3, "port", "a", name, cost, mode, vlan)
					for _, tagged := range pool {
						held(t, 3, "port", name, "a", cost, mode, vlan, tagged)
						held(t, 3, "port", name, "a", cost, mode, vlan, tagged, tagged)
					}
				}
			}
		}
	}
}

// Each byte of each good line's words put to each value, left out, and written twice.
func TestReadOfEachByteTurned(t *testing.T) {
	for _, c := range goods {
		words := strings.Fields(c.text)
		for at, word := range words {
			for i := range len(word) {
				turned := slices.Clone(words)
				turned[at] = word[:i] + word[i+1:]
				held(t, 3, turned...)
				for b := range 256 {
					turned[at] = word[:i] + string([]byte{byte(b)}) + word[i+1:]
					held(t, 3, turned...)
					turned[at] = word[:i] + string([]byte{byte(b)}) + word[i:]
					held(t, 3, turned...)
				}
			}
		}
	}
}

func TestReadKeepsNothingOfItsWords(t *testing.T) {
	for _, c := range goods {
		words := strings.Fields(strings.Clone(c.text))
		room := append(slices.Clone(words), "x", "y", "z")
		got, e := stmt.Read(room[:len(words)], 3)
		also, _ := stmt.Read(room[:len(words)], 3)
		if e != api.OK || !slices.Equal(room, append(slices.Clone(words), "x", "y", "z")) {
			t.Errorf("%s: %d, and its words are %q", c.text, e, room)
		}
		for _, name := range []string{got.Dev, got.Port, got.Peer, got.Far, got.Name} {
			for _, word := range words {
				if name != "" && inside(name, word) {
					t.Errorf("%s: the name %s lies in its word's memory", c.text, name)
				}
			}
		}
		clear(room)
		spoil(got)
		if want := c.line; !alike(also, withRow(want, 3)) {
			t.Errorf("%s: two lines share their memory: %+v", c.text, also)
		}
		shareNothing(t, c.text, also)
	}
	// A refused line leaves its words, too.
	bad := []string{"port", "a", "p", "1", "trunk", "10", "10,20", "x"}
	stmt.Read(bad[:7], 3)
	if !slices.Equal(bad, []string{"port", "a", "p", "1", "trunk", "10", "10,20", "x"}) {
		t.Errorf("words of a refused line are changed: %q", bad)
	}
}

// inside tells whether a piece lies in the memory of a text.
func inside(piece, text string) bool {
	at, from := uintptr(unsafe.Pointer(unsafe.StringData(piece))), uintptr(unsafe.Pointer(unsafe.StringData(text)))
	return at >= from && at < from+uintptr(len(text))
}

// withRow is a line with another Row.
func withRow(l api.Line, row int) api.Line {
	l.Row = row
	return l
}

// spoil turns each number of a line's lists, and what lies behind them.
func spoil(l api.Line) {
	for _, list := range [][]int{l.Tagged, l.Imports, l.Exports} {
		for i := range list[:cap(list)] {
			list[:cap(list)][i] = -7
		}
	}
	for i := range l.Addrs[:cap(l.Addrs)] {
		l.Addrs[:cap(l.Addrs)][i] = 0xdeadbeef
	}
}

// shareNothing asks that no two lists of a line share their memory, spare room too.
func shareNothing(t *testing.T, what string, l api.Line) {
	t.Helper()
	lists := [][]int{l.Tagged, l.Imports, l.Exports}
	for i, list := range lists {
		was := []string{listText(lists[(i+1)%3]), listText(lists[(i+2)%3])}
		list = append(list, 1, 2)
		for j := range list[:cap(list)] {
			list[:cap(list)][j] = -9
		}
		if is := []string{listText(lists[(i+1)%3]), listText(lists[(i+2)%3])}; !slices.Equal(is, was) {
			t.Errorf("%s: two lists of a line share their memory: %v, then %v", what, was, is)
		}
	}
}
