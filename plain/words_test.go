package plain_test

import (
	"fmt"
	"math"
	"net/netip"
	"reflect"
	"slices"
	"strings"
	"testing"
	"unsafe"

	"paling/api"
	"paling/line"
	"paling/plain"
	"paling/stmt"
)

const (
	mostVlan  = 4094
	mostShort = 65535
	mostVni   = 16777215
	mostMac   = 0xfeffffffffff
)

// good is a line that may be, and its row.
type good struct {
	row  string
	line api.Line
}

// upTo are so many numbers from first on.
func upTo[T int | uint32](first T, count int) []T {
	var l []T
	for i := range count {
		l = append(l, first+T(i))
	}
	return l
}

// goods are lines of each kind, of ports in each form, and with the least and the greatest number of each field.
var goods = []good{
	{"device sw1 32768 00:00:00:00:00:01", api.Line{Kind: 1, Dev: "sw1", Num: 32768, Mac: 1}},
	{"device a 0 00:00:00:00:00:00", api.Line{Kind: 1, Dev: "a"}},
	{"device a 1 00:00:00:00:0a:bc", api.Line{Kind: 1, Dev: "a", Num: 1, Mac: 2748}},
	{"device abcdefghijkl 65535 fe:ff:ff:ff:ff:ff", api.Line{Kind: 1, Dev: "abcdefghijkl", Num: mostShort, Mac: mostMac}},
	{"port sw1 p1 4 access 10", api.Line{Kind: 2, Dev: "sw1", Port: "p1", Cost: 4, Vlan: 10}},
	{"port a p 1 access 1", api.Line{Kind: 2, Dev: "a", Port: "p", Cost: 1, Vlan: 1}},
	{"port a p 65535 access 4094", api.Line{Kind: 2, Dev: "a", Port: "p", Cost: mostShort, Vlan: mostVlan}},
	{"port sw1 p1 4 access 10", api.Line{Kind: 2, Dev: "sw1", Port: "p1", Cost: 4, Vlan: 10, Tagged: []int{}}},
	{"port sw1 p1 4 trunk 30 10,20", api.Line{Kind: 2, Dev: "sw1", Port: "p1", Cost: 4, Vlan: 30, Tagged: []int{10, 20}}},
	{"port sw1 p1 4 trunk - 10,20", api.Line{Kind: 2, Dev: "sw1", Port: "p1", Cost: 4, Tagged: []int{10, 20}}},
	{"port a p 1 trunk - 1", api.Line{Kind: 2, Dev: "a", Port: "p", Cost: 1, Tagged: []int{1}}},
	{"port a p 1 trunk 1 4094", api.Line{Kind: 2, Dev: "a", Port: "p", Cost: 1, Vlan: 1, Tagged: []int{mostVlan}}},
	{"port a p 65535 trunk 4094 1,2,3,4,5,6,7,8,9,10,11,12,13,14,15,16", api.Line{Kind: 2, Dev: "a", Port: "p", Cost: mostShort, Vlan: mostVlan, Tagged: upTo(1, 16)}},
	{"port a p 1 trunk - 4079,4080,4081,4082,4083,4084,4085,4086,4087,4088,4089,4090,4091,4092,4093,4094", api.Line{Kind: 2, Dev: "a", Port: "p", Cost: 1, Tagged: upTo(4079, 16)}},
	{"link sw1 p2 sw2 p3", api.Line{Kind: 3, Dev: "sw1", Port: "p2", Peer: "sw2", Far: "p3"}},
	{"link a a a a", api.Line{Kind: 3, Dev: "a", Port: "a", Peer: "a", Far: "a"}},
	{"link a12345678901 b z99999999999 access", api.Line{Kind: 3, Dev: "a12345678901", Port: "b", Peer: "z99999999999", Far: "access"}},
	{"static sw1 10 00:00:00:00:00:02 p1", api.Line{Kind: 4, Dev: "sw1", Vlan: 10, Mac: 2, Port: "p1"}},
	{"static a 1 00:00:00:00:00:00 p", api.Line{Kind: 4, Dev: "a", Vlan: 1, Port: "p"}},
	{"static a 4094 fe:ff:ff:ff:ff:ff p", api.Line{Kind: 4, Dev: "a", Vlan: mostVlan, Mac: mostMac, Port: "p"}},
	{"vtep a 10.0.0.1", api.Line{Kind: 5, Dev: "a", Addr: 0x0a000001}},
	{"vtep a 0.0.0.1", api.Line{Kind: 5, Dev: "a", Addr: 1}},
	{"vtep vtep 255.255.255.255", api.Line{Kind: 5, Dev: "vtep", Addr: math.MaxUint32}},
	{"vni sw1 10 5010", api.Line{Kind: 6, Dev: "sw1", Vlan: 10, Num: 5010}},
	{"vni a 1 1", api.Line{Kind: 6, Dev: "a", Vlan: 1, Num: 1}},
	{"vni a 4094 16777215", api.Line{Kind: 6, Dev: "a", Vlan: mostVlan, Num: mostVni}},
	{"flood sw1 5010 10.0.0.2,10.0.0.3", api.Line{Kind: 7, Dev: "sw1", Num: 5010, Addrs: []uint32{0x0a000002, 0x0a000003}}},
	{"flood a 1 0.0.0.1", api.Line{Kind: 7, Dev: "a", Num: 1, Addrs: []uint32{1}}},
	{"flood a 16777215 0.0.0.1,255.255.255.255", api.Line{Kind: 7, Dev: "a", Num: mostVni, Addrs: []uint32{1, math.MaxUint32}}},
	{"flood a 1 0.0.0.1,0.0.0.2,0.0.0.3,0.0.0.4,0.0.0.5,0.0.0.6,0.0.0.7,0.0.0.8,0.0.0.9,0.0.0.10,0.0.0.11,0.0.0.12,0.0.0.13,0.0.0.14,0.0.0.15,0.0.0.16", api.Line{Kind: 7, Dev: "a", Num: 1, Addrs: upTo[uint32](1, 16)}},
	{"vrf sw1 red 1,2 -", api.Line{Kind: 8, Dev: "sw1", Name: "red", Imports: []int{1, 2}}},
	{"vrf a red - 7,8,9", api.Line{Kind: 8, Dev: "a", Name: "red", Exports: []int{7, 8, 9}}},
	{"vrf a red - -", api.Line{Kind: 8, Dev: "a", Name: "red"}},
	{"vrf a red - -", api.Line{Kind: 8, Dev: "a", Name: "red", Imports: []int{}, Exports: []int{}}},
	{"vrf a red 1 65535", api.Line{Kind: 8, Dev: "a", Name: "red", Imports: []int{1}, Exports: []int{mostShort}}},
	{"vrf a red 1,2,3,4,5,6,7,8,9,10,11,12,13,14,15,16 11,12,13,14,15,16,17,18,19,20,21,22,23,24,25,26", api.Line{Kind: 8, Dev: "a", Name: "red", Imports: upTo(1, 16), Exports: upTo(11, 16)}},
	{"irb sw1 10 red 192.168.0.1/24", api.Line{Kind: 9, Dev: "sw1", Vlan: 10, Name: "red", Addr: 0xc0a80001, Bits: 24}},
	{"irb a 1 r 0.0.0.1/1", api.Line{Kind: 9, Dev: "a", Vlan: 1, Name: "r", Addr: 1, Bits: 1}},
	{"irb a 4094 r 255.255.255.254/30", api.Line{Kind: 9, Dev: "a", Vlan: mostVlan, Name: "r", Addr: math.MaxUint32 - 1, Bits: 30}},
}

// wrong is a line that may not be, and why.
type wrong struct {
	why  string
	line api.Line
}

// wrongs are lines that may not be, each for another reason.
var wrongs = []wrong{
	{"nothing", api.Line{}},
	{"a row alone", api.Line{Row: 7}},
	{"no kind", api.Line{Dev: "a", Addr: 1}},
	{"a kind below all", api.Line{Kind: -1, Dev: "a", Addr: 1}},
	{"a kind above all", api.Line{Kind: 10, Dev: "a", Addr: 1}},
	{"another kind by 2^32", api.Line{Kind: 1<<32 + 5, Dev: "a", Addr: 1}},
	{"a kind alone", api.Line{Kind: 5}},
	{"no Dev", api.Line{Kind: 5, Addr: 1}},
	{"a Dev that is no name", api.Line{Kind: 5, Dev: "A", Addr: 1}},
	{"a Dev that would be two words", api.Line{Kind: 5, Dev: "a b", Addr: 1}},
	{"a Dev that would be a remark", api.Line{Kind: 5, Dev: "#", Addr: 1}},
	{"a Dev with a byte 10", api.Line{Kind: 5, Dev: "a\n", Addr: 1}},
	{"a Dev that is too long", api.Line{Kind: 5, Dev: "abcdefghijklm", Addr: 1}},
	{"a Dev of - ", api.Line{Kind: 5, Dev: "-", Addr: 1}},
	{"no Port", api.Line{Kind: 2, Dev: "a", Cost: 1, Vlan: 1}},
	{"no Peer", api.Line{Kind: 3, Dev: "a", Port: "p", Far: "p"}},
	{"no Far", api.Line{Kind: 3, Dev: "a", Port: "p", Peer: "b"}},
	{"no Name", api.Line{Kind: 8, Dev: "a"}},
	{"a priority below all", api.Line{Kind: 1, Dev: "a", Num: -1}},
	{"a priority above all", api.Line{Kind: 1, Dev: "a", Num: mostShort + 1}},
	{"a group's address", api.Line{Kind: 1, Dev: "a", Mac: 1 << 40}},
	{"a host's address", api.Line{Kind: 4, Dev: "a", Vlan: 1, Mac: 0x020000000001, Port: "p"}},
	{"an address of more than 48 bits", api.Line{Kind: 1, Dev: "a", Mac: 1<<48 + 1}},
	{"no cost", api.Line{Kind: 2, Dev: "a", Port: "p", Vlan: 1}},
	{"a cost above all", api.Line{Kind: 2, Dev: "a", Port: "p", Cost: mostShort + 1, Vlan: 1}},
	{"a port without a VLAN", api.Line{Kind: 2, Dev: "a", Port: "p", Cost: 1}},
	{"a port without a VLAN, with an empty list", api.Line{Kind: 2, Dev: "a", Port: "p", Cost: 1, Tagged: []int{}}},
	{"a port's Vlan above all", api.Line{Kind: 2, Dev: "a", Port: "p", Cost: 1, Vlan: mostVlan + 1}},
	{"a trunk's Vlan below all", api.Line{Kind: 2, Dev: "a", Port: "p", Cost: 1, Vlan: -1, Tagged: []int{1}}},
	{"a Vlan that is one of Tagged", api.Line{Kind: 2, Dev: "a", Port: "p", Cost: 1, Vlan: 10, Tagged: []int{10, 20}}},
	{"a Tagged that does not rise", api.Line{Kind: 2, Dev: "a", Port: "p", Cost: 1, Tagged: []int{20, 10}}},
	{"a Tagged that has one twice", api.Line{Kind: 2, Dev: "a", Port: "p", Cost: 1, Tagged: []int{10, 10}}},
	{"a Tagged with a 0", api.Line{Kind: 2, Dev: "a", Port: "p", Cost: 1, Tagged: []int{0, 10}}},
	{"a Tagged above all", api.Line{Kind: 2, Dev: "a", Port: "p", Cost: 1, Tagged: []int{mostVlan + 1}}},
	{"a Tagged of 17", api.Line{Kind: 2, Dev: "a", Port: "p", Cost: 1, Tagged: upTo(1, 17)}},
	{"a static of the VLAN 0", api.Line{Kind: 4, Dev: "a", Mac: 1, Port: "p"}},
	{"the address 0", api.Line{Kind: 5, Dev: "a"}},
	{"the VNI 0", api.Line{Kind: 6, Dev: "a", Vlan: 1}},
	{"a VNI above all", api.Line{Kind: 6, Dev: "a", Vlan: 1, Num: mostVni + 1}},
	{"a flood list of nothing", api.Line{Kind: 7, Dev: "a", Num: 1}},
	{"a flood list with a 0", api.Line{Kind: 7, Dev: "a", Num: 1, Addrs: []uint32{0, 1}}},
	{"a flood list that does not rise", api.Line{Kind: 7, Dev: "a", Num: 1, Addrs: []uint32{2, 1}}},
	{"a flood list of 17", api.Line{Kind: 7, Dev: "a", Num: 1, Addrs: upTo[uint32](1, 17)}},
	{"an import of 0", api.Line{Kind: 8, Dev: "a", Name: "red", Imports: []int{0}}},
	{"an import above all", api.Line{Kind: 8, Dev: "a", Name: "red", Imports: []int{mostShort + 1}}},
	{"exports that do not rise", api.Line{Kind: 8, Dev: "a", Name: "red", Exports: []int{2, 1}}},
	{"exports of 17", api.Line{Kind: 8, Dev: "a", Name: "red", Exports: upTo(1, 17)}},
	{"a prefix's first address", api.Line{Kind: 9, Dev: "a", Vlan: 1, Name: "red", Addr: 0x0a000000, Bits: 24}},
	{"a prefix's last address", api.Line{Kind: 9, Dev: "a", Vlan: 1, Name: "red", Addr: 0x0a0000ff, Bits: 24}},
	{"a prefix of no bits", api.Line{Kind: 9, Dev: "a", Vlan: 1, Name: "red", Addr: 1}},
	{"a prefix of 31 bits", api.Line{Kind: 9, Dev: "a", Vlan: 1, Name: "red", Addr: 1, Bits: 31}},
	{"a prefix of bits below all", api.Line{Kind: 9, Dev: "a", Vlan: 1, Name: "red", Addr: 1, Bits: -1}},
	{"a field of another kind", api.Line{Kind: 5, Dev: "a", Addr: 1, Vlan: 10}},
	{"a name of another kind", api.Line{Kind: 5, Dev: "a", Addr: 1, Name: "red"}},
	{"a list of another kind", api.Line{Kind: 5, Dev: "a", Addr: 1, Addrs: []uint32{1}}},
}

// rowsNumbers are numbers of rows: no word hangs on any.
var rowsNumbers = []int{0, 1, 2, 400, 401, -1, math.MaxInt, math.MinInt}

// withRow is a line with another Row.
func withRow(l api.Line, row int) api.Line {
	l.Row = row
	return l
}

// listOf writes a list by the chapter's words.
func listOf(l []int) string {
	if len(l) == 0 {
		return "-"
	}
	return strings.ReplaceAll(strings.Trim(fmt.Sprint(l), "[]"), " ", ",")
}

func addrOf(a uint32) string {
	return netip.AddrFrom4([4]byte{byte(a >> 24), byte(a >> 16), byte(a >> 8), byte(a)}).String()
}

func macOf(m uint64) string {
	s := fmt.Sprintf("%012x", m)
	return strings.Join([]string{s[:2], s[2:4], s[4:6], s[6:8], s[8:10], s[10:]}, ":")
}

// said is the row of a line that may be, by the chapters' words.
func said(l api.Line) string {
	switch l.Kind {
	case 1:
		return fmt.Sprint("device ", l.Dev, " ", l.Num, " ", macOf(l.Mac))
	case 2:
		head := fmt.Sprint("port ", l.Dev, " ", l.Port, " ", l.Cost)
		if len(l.Tagged) == 0 {
			return fmt.Sprint(head, " access ", l.Vlan)
		}
		if l.Vlan == 0 {
			return fmt.Sprint(head, " trunk - ", listOf(l.Tagged))
		}
		return fmt.Sprint(head, " trunk ", l.Vlan, " ", listOf(l.Tagged))
	case 3:
		return fmt.Sprint("link ", l.Dev, " ", l.Port, " ", l.Peer, " ", l.Far)
	case 4:
		return fmt.Sprint("static ", l.Dev, " ", l.Vlan, " ", macOf(l.Mac), " ", l.Port)
	case 5:
		return fmt.Sprint("vtep ", l.Dev, " ", addrOf(l.Addr))
	case 6:
		return fmt.Sprint("vni ", l.Dev, " ", l.Vlan, " ", l.Num)
	case 7:
		var addrs []string
		for _, a := range l.Addrs {
			addrs = append(addrs, addrOf(a))
		}
		return fmt.Sprint("flood ", l.Dev, " ", l.Num, " ", strings.Join(addrs, ","))
	case 8:
		return fmt.Sprint("vrf ", l.Dev, " ", l.Name, " ", listOf(l.Imports), " ", listOf(l.Exports))
	}
	return fmt.Sprint("irb ", l.Dev, " ", l.Vlan, " ", l.Name, " ", addrOf(l.Addr), "/", l.Bits)
}

// isWritten asks that a line has the words of a row, and is written as that row.
func isWritten(t *testing.T, l api.Line, row string) {
	t.Helper()
	words := plain.Words(l)
	if !slices.Equal(words, strings.Split(row, " ")) {
		t.Fatalf("Words of %+v: %q; not %q", l, words, row)
	}
	if s, e := plain.Line(l); s != row || e != api.OK || s != line.Join(words) {
		t.Fatalf("Line of %+v: %q, %d; not %q", l, s, e, row)
	}
	if again, e := stmt.Read(words, l.Row); e != api.OK || !stmt.Same(again, l) {
		t.Fatalf("%q is read as %+v, %d; not %+v", words, again, e, l)
	}
}

// isNone asks that a line has no words, and that Line refuses it with nothing beside the error.
func isNone(t *testing.T, why string, l api.Line) {
	t.Helper()
	if words := plain.Words(l); len(words) > 0 {
		t.Fatalf("%s: Words of %+v: %q", why, l, words)
	}
	if s, e := plain.Line(l); s != "" || e != api.ErrArg {
		t.Fatalf("%s: Line of %+v: %q, %d; not none, %d", why, l, s, e, api.ErrArg)
	}
}

// held holds Words and Line against the chapters' words.
func held(t *testing.T, l api.Line) {
	t.Helper()
	if !stmt.Right(l) {
		isNone(t, "not right", l)
		return
	}
	isWritten(t, l, said(l))
}

// P13.1

func TestWordsOfEachKindOfLine(t *testing.T) {
	kinds := map[int]int{}
	for _, g := range goods {
		for _, row := range rowsNumbers {
			isWritten(t, withRow(g.line, row), g.row)
		}
		held(t, g.line)
		kinds[g.line.Kind]++
	}
	if len(kinds) != 9 {
		t.Errorf("lines of %d kinds", len(kinds))
	}
}

func TestLinesThatMayNotBeHaveNoWords(t *testing.T) {
	for _, w := range wrongs {
		for _, row := range rowsNumbers {
			isNone(t, w.why, withRow(w.line, row))
		}
	}
}

// The example of the chapter.
func TestWordsOfAVtep(t *testing.T) {
	isWritten(t, api.Line{Row: 1, Kind: api.LVtep, Dev: "a", Addr: 0x0a000001}, "vtep a 10.0.0.1")
}

// Words tell the line of which chapter 11 reads them: of a trunk without Tagged there are an access port's.
func TestWordsOfLinesThatAreRead(t *testing.T) {
	for _, c := range [][2]string{
		{"port sw1 p1 4 trunk 10 -", "port sw1 p1 4 access 10"},
		{"port sw1 p1 4 access 10", "port sw1 p1 4 access 10"},
		{"port sw1 p1 4 trunk 10 20", "port sw1 p1 4 trunk 10 20"},
		{"port sw1 p1 4 trunk - 10", "port sw1 p1 4 trunk - 10"},
		{"port access trunk 4 trunk - 10", "port access trunk 4 trunk - 10"},
	} {
		l, e := stmt.Read(strings.Fields(c[0]), 3)
		if e != api.OK {
			t.Fatalf("%s: %d", c[0], e)
		}
		isWritten(t, l, c[1])
	}
	for _, g := range goods {
		for _, row := range rowsNumbers {
			l, e := stmt.Read(strings.Fields(g.row), row)
			if e != api.OK || l.Row != row {
				t.Fatalf("%s: %+v, %d", g.row, l, e)
			}
			isWritten(t, l, g.row)
		}
	}
}

// Each number of a range of two bytes, and of VLANs, and numbers around each power of two and of ten.
func TestWordsOfEachNumber(t *testing.T) {
	for n := -3; n <= mostShort+3; n++ {
		held(t, api.Line{Kind: 1, Dev: "a", Num: n})
		held(t, api.Line{Kind: 2, Dev: "a", Port: "p", Cost: n, Vlan: 1})
		if n <= mostVlan+3 {
			held(t, api.Line{Kind: 2, Dev: "a", Port: "p", Cost: 1, Vlan: n})
			held(t, api.Line{Kind: 2, Dev: "a", Port: "p", Cost: 1, Vlan: n, Tagged: []int{2000}})
			held(t, api.Line{Kind: 2, Dev: "a", Port: "p", Cost: 1, Vlan: 2000, Tagged: []int{n, n + 1}})
			held(t, api.Line{Kind: 9, Dev: "a", Vlan: n, Name: "red", Addr: 1, Bits: 24})
		}
	}
	var around []int
	for i := range 63 {
		around = append(around, 1<<i-1, 1<<i, 1<<i+1, -1<<i)
	}
	for n := 1; n < 1e18; n *= 10 {
		around = append(around, n-1, n, n+1)
	}
	puts := []func(l *api.Line, n int){
		func(l *api.Line, n int) { l.Num = n },
		func(l *api.Line, n int) { l.Bits = n },
		func(l *api.Line, n int) { l.Vlan = n },
		func(l *api.Line, n int) { l.Cost = n },
		func(l *api.Line, n int) { l.Mac = uint64(n) },
		func(l *api.Line, n int) { l.Addr = uint32(n) },
		func(l *api.Line, n int) { l.Tagged = []int{n} },
		func(l *api.Line, n int) { l.Imports = []int{n} },
		func(l *api.Line, n int) { l.Exports = []int{n} },
		func(l *api.Line, n int) { l.Addrs = []uint32{uint32(n)} },
	}
	for _, n := range append(around, math.MaxInt, math.MinInt) {
		for _, g := range goods {
			for _, put := range puts {
				l := g.line
				put(&l, n)
				held(t, l)
			}
		}
	}
	for bits := -1; bits <= 33; bits++ {
		for i := range 32 {
			held(t, api.Line{Kind: 9, Dev: "a", Vlan: 10, Name: "red", Addr: 0x0a141e28 ^ 1<<i, Bits: bits})
		}
	}
}

// Lists of each size up to more than there may be, in each place that takes one.
func TestWordsOfListsOfEachSize(t *testing.T) {
	for n := range 19 {
		for _, first := range []int{1, 2, 95, 995, mostVlan - 15, mostShort - 15} {
			held(t, api.Line{Kind: 2, Dev: "a", Port: "p", Cost: 1, Vlan: 3000, Tagged: upTo(first, n)})
			held(t, api.Line{Kind: 2, Dev: "a", Port: "p", Cost: 1, Tagged: upTo(first, n)})
			held(t, api.Line{Kind: 7, Dev: "a", Num: 1, Addrs: upTo(uint32(first), n)})
			held(t, api.Line{Kind: 7, Dev: "a", Num: 1, Addrs: upTo(uint32(first)<<16-4, n)})
			held(t, api.Line{Kind: 8, Dev: "a", Name: "red", Imports: upTo(first, n)})
			held(t, api.Line{Kind: 8, Dev: "a", Name: "red", Exports: upTo(first, n)})
			held(t, api.Line{Kind: 8, Dev: "a", Name: "red", Imports: upTo(first, n), Exports: upTo(9, 18-n)})
		}
	}
}

// values are values for a field of a type, good ones and wrong ones.
func values(kind reflect.Type) []any {
	switch kind {
	case reflect.TypeFor[string]():
		return []any{"", "a", "z9", "access", "abcdefghijkl", "abcdefghijklm", "A", "9a", "a b", "-", "a#", "\u00e4"}
	case reflect.TypeFor[int]():
		return []any{0, 1, 10, 24, 30, 31, mostVlan, mostVlan + 1, mostShort, mostShort + 1, mostVni, mostVni + 1, -1, math.MaxInt, math.MinInt}
	case reflect.TypeFor[uint64]():
		return []any{uint64(0), uint64(1), uint64(1) << 40, uint64(0x020000000001), uint64(0x020100000001), uint64(mostMac), uint64(1) << 48, uint64(math.MaxUint64)}
	case reflect.TypeFor[uint32]():
		return []any{uint32(0), uint32(1), uint32(0x0a000000), uint32(0x0a0000fe), uint32(0x0a0000ff), uint32(math.MaxUint32)}
	case reflect.TypeFor[[]int]():
		return []any{[]int(nil), []int{}, []int{1}, []int{10, 20}, []int{20, 10}, []int{0, 1}, []int{mostVlan, mostVlan + 1}, []int{mostShort, mostShort + 1}, upTo(1, 16), upTo(1, 17)}
	}
	return []any{[]uint32(nil), []uint32{}, []uint32{1}, []uint32{0, 1}, []uint32{2, 1}, []uint32{1, math.MaxUint32}, upTo[uint32](1, 16), upTo[uint32](1, 17)}
}

// turned hands one each line that has one field of a line put to each of its values.
func turned(l api.Line, one func(l api.Line)) {
	kind := reflect.TypeFor[api.Line]()
	for i := range kind.NumField() {
		for _, v := range values(kind.Field(i).Type) {
			other := l
			reflect.ValueOf(&other).Elem().Field(i).Set(reflect.ValueOf(v))
			one(other)
		}
	}
}

func TestWordsOfEachFieldTurnedAndEachTwo(t *testing.T) {
	for _, g := range goods {
		turned(g.line, func(l api.Line) {
			held(t, l)
			turned(l, func(l api.Line) { held(t, l) })
		})
		for kind := -2; kind <= 12; kind++ {
			l := g.line
			l.Kind = kind
			held(t, l)
		}
	}
}

// Names that are pieces of longer texts come out in memory of their own.
func TestWordsAreNewMemory(t *testing.T) {
	text := strings.Repeat("abcdefghijkl", 5)
	from := uintptr(unsafe.Pointer(unsafe.StringData(text)))
	inside := func(s string) bool {
		at := uintptr(unsafe.Pointer(unsafe.StringData(s)))
		return at >= from && at < from+uintptr(len(text))
	}
	for _, g := range goods {
		l := g.line
		for _, name := range []*string{&l.Dev, &l.Port, &l.Peer, &l.Far, &l.Name} {
			if *name != "" {
				*name = text[len(text)-12:]
			}
		}
		words := plain.Words(l)
		if len(words) < 3 || slices.ContainsFunc(words, inside) {
			t.Errorf("Words of %+v lie in its memory", l)
		}
		if s, _ := plain.Line(l); s == "" || inside(s) {
			t.Errorf("Line of %+v lies in its memory", l)
		}
		// What one answer is turned to changes no other one, its spare room neither.
		spoil(words)
		again := plain.Words(l)
		spoil(append(again, "more"))
		isWritten(t, l, said(l))
	}
}

// spoil turns all words, and what lies behind them.
func spoil(words []string) {
	for i := range words[:cap(words)] {
		words[:cap(words)][i] = "spoilt"
	}
}
