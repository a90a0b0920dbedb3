package stmt_test

import (
	"math"
	"net/netip"
	"reflect"
	"slices"
	"strconv"
	"strings"
	"testing"

	"paling/api"
	"paling/stmt"
)

// upTo are so many numbers from first on.
func upTo[T int | uint32](first T, count int) []T {
	var l []T
	for i := range count {
		l = append(l, first+T(i))
	}
	return l
}

// values are values for a field of a type, good ones and wrong ones.
func values(kind reflect.Type) []any {
	switch kind {
	case reflect.TypeFor[string]():
		return []any{"", "a", "p9", "red", "access", "abcdefghijkl", "abcdefghijklm", "A", "9a", "a-b", "a b", " ", "-", "a\n", "\u00e4", strings.Repeat("a", 1<<12)}
	case reflect.TypeFor[int]():
		return []any{0, 1, 2, 9, 10, 20, 24, 29, 30, 31, 32, 33, 100, mostVlan - 1, mostVlan, mostVlan + 1, mostShort, mostShort + 1, mostVni, mostVni + 1, -1, -10, 1 << 32, 1<<32 + 10, math.MaxInt, math.MinInt}
	case reflect.TypeFor[uint64]():
		return []any{uint64(0), uint64(1), uint64(2), uint64(0x010000000000), uint64(0x010000000001), uint64(0x020000000000), uint64(0x020000000001), uint64(0x0200ffffffff), uint64(0x020100000000), uint64(0x020100000001),
			uint64(0x030000000001), uint64(0xfeffffffffff), uint64(0xffffffffffff), uint64(1 << 48), uint64(1<<48 + 1), uint64(1<<48 + 2), uint64(1 << 63), uint64(math.MaxUint64), uint64(0xff_feffffffffff)}
	case reflect.TypeFor[uint32]():
		return []any{uint32(0), uint32(1), uint32(0x0a000000), uint32(0x0a000001), uint32(0x0a000002), uint32(0x0a000003), uint32(0x0a0000fe), uint32(0x0a0000ff), uint32(0x0a000100), uint32(0x7fffffff), uint32(0x80000000), uint32(math.MaxUint32 - 1), uint32(math.MaxUint32)}
	case reflect.TypeFor[[]int]():
		return []any{[]int(nil), []int{}, []int{1}, []int{10}, []int{10, 20}, []int{20, 10}, []int{10, 10}, []int{1, 2, 2}, []int{2, 1, 3}, []int{0}, []int{0, 1}, []int{-1}, []int{-1, 1}, []int{mostVlan}, []int{mostVlan + 1}, []int{1, mostVlan + 1},
			[]int{mostShort}, []int{mostShort + 1}, []int{1, mostShort + 1}, []int{math.MinInt}, []int{math.MaxInt}, []int{1, math.MaxInt}, []int{1, 1<<32 + 2}, upTo(1, 15), upTo(1, 16), upTo(1, 17), upTo(100, 16), upTo(1, 400)}
	}
	return []any{[]uint32(nil), []uint32{}, []uint32{1}, []uint32{0}, []uint32{0, 1}, []uint32{1, 0}, []uint32{1, 2}, []uint32{2, 1}, []uint32{1, 1}, []uint32{1, 2, 2}, []uint32{1, 3, 2}, []uint32{math.MaxUint32}, []uint32{1, math.MaxUint32}, []uint32{math.MaxUint32, 1},
		[]uint32{0x7fffffff, 0x80000000}, []uint32{0x80000000, 0x7fffffff}, upTo[uint32](1, 15), upTo[uint32](1, 16), upTo[uint32](0, 16), upTo[uint32](1, 17), upTo[uint32](1, 400)}
}

// turned hands one each line that has one field of a line put to each of its values.
func turned(l api.Line, one func(field string, l api.Line)) {
	kind := reflect.TypeFor[api.Line]()
	for i := range kind.NumField() {
		if f := kind.Field(i); f.Name != "Kind" && f.Name != "Row" {
			for _, v := range values(f.Type) {
				other := l
				reflect.ValueOf(&other).Elem().Field(i).Set(reflect.ValueOf(v))
				one(f.Name, other)
			}
		}
	}
}

// addrText writes an address.
func addrText(a uint32) string {
	return netip.AddrFrom4([4]byte{byte(a >> 24), byte(a >> 16), byte(a >> 8), byte(a)}).String()
}

// macText writes the lowest 48 bits of an address.
func macText(m uint64) string {
	var s []string
	for i := 5; i >= 0; i-- {
		s = append(s, strconv.FormatUint(1<<8+m>>(8*i)&0xff, 16)[1:])
	}
	return strings.Join(s, ":")
}

// orNone writes a - for what is not there.
func orNone(s string, is bool) string {
	if !is {
		return "-"
	}
	return s
}

// wordsOf are the words that would be read as a line of its kind, if there are such.
func wordsOf(l api.Line) []string {
	num, vlan := strconv.Itoa(l.Num), strconv.Itoa(l.Vlan)
	switch l.Kind {
	case 1:
		return []string{"device", l.Dev, num, macText(l.Mac)}
	case 2:
		return []string{"port", l.Dev, l.Port, strconv.Itoa(l.Cost), "trunk", orNone(vlan, l.Vlan != 0), orNone(listText(l.Tagged), len(l.Tagged) > 0)}
	case 3:
		return []string{"link", l.Dev, l.Port, l.Peer, l.Far}
	case 4:
		return []string{"static", l.Dev, vlan, macText(l.Mac), l.Port}
	case 5:
		return []string{"vtep", l.Dev, addrText(l.Addr)}
	case 6:
		return []string{"vni", l.Dev, vlan, num}
	case 7:
		var s []string
		for _, a := range l.Addrs {
			s = append(s, addrText(a))
		}
		return []string{"flood", l.Dev, num, strings.Join(s, ",")}
	case 8:
		return []string{"vrf", l.Dev, l.Name, orNone(listText(l.Imports), len(l.Imports) > 0), orNone(listText(l.Exports), len(l.Exports) > 0)}
	case 9:
		return []string{"irb", l.Dev, vlan, l.Name, addrText(l.Addr) + "/" + strconv.Itoa(l.Bits)}
	}
	return nil
}

// saidRight tells by the chapter's words whether a line is one of some words.
func saidRight(l api.Line) bool {
	words := wordsOf(l)
	if words == nil {
		return false
	}
	again, e := saidLine(words, l.Row)
	return e == api.OK && alike(again, l)
}

// rightHeld holds Right against the chapter's words, and against Read.
func rightHeld(t *testing.T, l api.Line) {
	t.Helper()
	want := saidRight(l)
	if got := stmt.Right(l); got != want {
		t.Fatalf("Right of %+v: %v", l, got)
	}
	if again, e := stmt.Read(wordsOf(l), l.Row); (e == api.OK && stmt.Same(again, l)) != want {
		t.Fatalf("Right of %+v, but read as %+v, %d", l, again, e)
	}
}

// isRight asks whether a line may be, with whatever Row.
func isRight(t *testing.T, want bool, l api.Line) {
	t.Helper()
	for _, row := range rows {
		if got := stmt.Right(withRow(l, row)); got != want {
			t.Fatalf("Right of %+v: %v", withRow(l, row), got)
		}
	}
	rightHeld(t, l)
}

// P11.2: Right

func TestRightOfLinesOfSomeWords(t *testing.T) {
	for _, c := range goods {
		isRight(t, true, c.line)
		// Lists that its kind does not have, and lists that have nothing, may be empty instead of nil.
		other := c.line
		for _, list := range []*[]int{&other.Tagged, &other.Imports, &other.Exports} {
			if *list == nil {
				*list = []int{}
			}
		}
		if other.Addrs == nil {
			other.Addrs = []uint32{}
		}
		isRight(t, true, other)
	}
}

func TestRightOfWhatIsOfNoKind(t *testing.T) {
	isRight(t, false, api.Line{})
	for _, kind := range []int{0, -1, -2, -9, 10, 11, 12, 100, 257, 1<<32 + 5, math.MaxInt, math.MinInt} {
		isRight(t, false, api.Line{Kind: kind})
		isRight(t, false, api.Line{Kind: kind, Dev: "a", Addr: 1})
		for _, c := range goods {
			l := c.line
			l.Kind = kind
			isRight(t, false, l)
		}
	}
	for kind := 1; kind <= 9; kind++ {
		isRight(t, false, api.Line{Kind: kind})
		// Of a device alone all that stands behind the name may be zero.
		isRight(t, kind == 1, api.Line{Kind: kind, Dev: "a"})
		for _, c := range goods {
			if l := c.line; l.Kind != kind {
				l.Kind = kind
				isRight(t, false, l)
			}
		}
	}
}

// A field that the kind has not is turned from zero, whatever it is turned to.
func TestRightOfWhatHasAnotherKindsField(t *testing.T) {
	for _, c := range goods {
		has := strings.Join(goesTo[strings.Fields(c.text)[0]], " ")
		turned(c.line, func(field string, l api.Line) {
			of := reflect.ValueOf(l).FieldByName(field)
			if zero := of.IsZero() || of.Kind() == reflect.Slice && of.Len() == 0; !slices.Contains(strings.Fields(has), field) {
				isRight(t, zero, l)
			}
		})
	}
	isRight(t, false, api.Line{Kind: 5, Dev: "a", Addr: 1, Port: "p"})
	isRight(t, false, api.Line{Kind: 5, Dev: "a", Addr: 1, Bits: 24})
	isRight(t, false, api.Line{Kind: 5, Dev: "a", Addr: 1, Addrs: []uint32{1}})
	isRight(t, false, api.Line{Kind: 7, Dev: "a", Num: 1, Addr: 1, Addrs: []uint32{1}})
	isRight(t, false, api.Line{Kind: 6, Dev: "a", Vlan: 1, Num: 1, Cost: 1})
	isRight(t, false, api.Line{Kind: 1, Dev: "a", Name: "a", Mac: 1})
}

func TestRightOfEachFieldTurned(t *testing.T) {
	for _, c := range goods {
		turned(c.line, func(_ string, l api.Line) { isRight(t, saidRight(l), l) })
	}
}

// Two fields are turned at once.
func TestRightOfEachTwoFieldsTurned(t *testing.T) {
	for _, c := range goods {
		turned(c.line, func(_ string, l api.Line) {
			has := stmt.Right(l)
			turned(l, func(field string, l api.Line) {
				// With two wrong fields alone there is little more to find.
				if has || field == "Vlan" || field == "Tagged" || field == "Bits" {
					rightHeld(t, l)
				}
			})
		})
	}
}

func TestRightOfFieldsAtTheirRangesEnds(t *testing.T) {
	isRight(t, true, api.Line{Kind: 1, Dev: "a"})
	isRight(t, true, api.Line{Kind: 1, Dev: "a", Num: 65535, Mac: 0xfeffffffffff})
	isRight(t, false, api.Line{Kind: 1, Dev: "a", Num: 65536})
	isRight(t, false, api.Line{Kind: 1, Dev: "a", Num: -1})
	isRight(t, false, api.Line{Kind: 1, Dev: "a", Mac: 1 << 48})
	isRight(t, false, api.Line{Kind: 1, Dev: "a", Mac: 1 << 40})
	isRight(t, false, api.Line{Kind: 1, Dev: "a", Mac: 0x020000000000})
	isRight(t, true, api.Line{Kind: 2, Dev: "a", Port: "p", Cost: 65535, Vlan: 4094})
	isRight(t, false, api.Line{Kind: 2, Dev: "a", Port: "p", Cost: 65536, Vlan: 4094})
	isRight(t, false, api.Line{Kind: 2, Dev: "a", Port: "p", Cost: 0, Vlan: 4094})
	isRight(t, false, api.Line{Kind: 2, Dev: "a", Port: "p", Cost: 1, Vlan: 4095})
	isRight(t, false, api.Line{Kind: 2, Dev: "a", Port: "p", Cost: 1})
	isRight(t, false, api.Line{Kind: 2, Dev: "a", Port: "p", Cost: 1, Tagged: []int{}})
	isRight(t, false, api.Line{Kind: 2, Dev: "a", Port: "p", Cost: 1, Vlan: 10, Tagged: []int{10}})
	isRight(t, false, api.Line{Kind: 2, Dev: "a", Port: "p", Cost: 1, Vlan: -1, Tagged: []int{10}})
	isRight(t, false, api.Line{Kind: 2, Dev: "a", Port: "p", Cost: 1, Tagged: []int{0}})
	isRight(t, true, api.Line{Kind: 2, Dev: "a", Port: "p", Cost: 1, Tagged: upTo(1, 16)})
	isRight(t, false, api.Line{Kind: 2, Dev: "a", Port: "p", Cost: 1, Tagged: upTo(1, 17)})
	isRight(t, true, api.Line{Kind: 6, Dev: "a", Vlan: 1, Num: 16777215})
	isRight(t, false, api.Line{Kind: 6, Dev: "a", Vlan: 1, Num: 16777216})
	isRight(t, false, api.Line{Kind: 6, Dev: "a", Vlan: 1})
	isRight(t, false, api.Line{Kind: 6, Dev: "a", Num: 1})
	isRight(t, false, api.Line{Kind: 7, Dev: "a", Num: 1})
	isRight(t, false, api.Line{Kind: 7, Dev: "a", Num: 1, Addrs: []uint32{0}})
	isRight(t, true, api.Line{Kind: 7, Dev: "a", Num: 1, Addrs: upTo[uint32](1, 16)})
	isRight(t, false, api.Line{Kind: 7, Dev: "a", Num: 1, Addrs: upTo[uint32](1, 17)})
	isRight(t, false, api.Line{Kind: 5, Dev: "a"})
	isRight(t, true, api.Line{Kind: 8, Dev: "a", Name: "red"})
	isRight(t, false, api.Line{Kind: 8, Dev: "a"})
	isRight(t, false, api.Line{Kind: 8, Dev: "a", Name: "red", Imports: []int{65536}})
	isRight(t, false, api.Line{Kind: 8, Dev: "a", Name: "red", Exports: []int{2, 1}})
	// Each prefix, with an address at its ends and beside them.
	for bits := -2; bits <= 40; bits++ {
		for _, a := range []uint32{0, 1, 2, 3, 0x7ffffffe, 0x7fffffff, 0x80000000, 0x80000001, 0x0a000000, 0x0a000001, 0x0a000002, 0x0a000003, 0x0a0000ff, 0x0a00ffff, 0xfffffffe, 0xffffffff} {
			rightHeld(t, api.Line{Kind: 9, Dev: "a", Vlan: 10, Name: "red", Addr: a, Bits: bits})
		}
	}
	isRight(t, true, api.Line{Kind: 9, Dev: "a", Vlan: 10, Name: "red", Addr: 1, Bits: 30})
	isRight(t, true, api.Line{Kind: 9, Dev: "a", Vlan: 10, Name: "red", Addr: 1, Bits: 1})
	isRight(t, false, api.Line{Kind: 9, Dev: "a", Vlan: 10, Name: "red", Addr: 1, Bits: 0})
	isRight(t, false, api.Line{Kind: 9, Dev: "a", Vlan: 10, Name: "red", Addr: 1, Bits: 31})
	isRight(t, false, api.Line{Kind: 9, Dev: "a", Vlan: 10, Name: "red", Addr: 0, Bits: 30})
	isRight(t, false, api.Line{Kind: 9, Dev: "a", Vlan: 10, Name: "red", Addr: 3, Bits: 30})
}

// Each address of 48 bits with one bit or two of them, and beyond.
func TestRightOfAddressesOf48Bits(t *testing.T) {
	for _, base := range []uint64{0, 0x020000000000, 0x020000000001, 0x0a0b0c0d0e0f} {
		for i := range 64 {
			for j := range 64 {
				m := base ^ 1<<i ^ 1<<j
				rightHeld(t, api.Line{Kind: 1, Dev: "a", Num: 1, Mac: m})
				rightHeld(t, api.Line{Kind: 4, Dev: "a", Vlan: 1, Mac: m, Port: "p"})
			}
		}
	}
}

// P11.2: Same

// full is a line whose fields all have something.
func full() api.Line {
	return api.Line{Row: 3, Kind: 2, Dev: "a", Port: "b", Peer: "c", Far: "d", Name: "e", Mac: 5, Addr: 6, Bits: 7, Vlan: 8, Num: 9, Cost: 10, Tagged: []int{11, 12}, Imports: []int{13, 14}, Exports: []int{15, 16}, Addrs: []uint32{17, 18}}
}

// areSame asks whether two lines are alike, either way round.
func areSame(t *testing.T, want bool, a, b api.Line) {
	t.Helper()
	if stmt.Same(a, b) != want || stmt.Same(b, a) != want {
		t.Fatalf("Same of %+v and %+v: not %v", a, b, want)
	}
}

func TestSameOfLinesUnlikeInOneField(t *testing.T) {
	kind := reflect.TypeFor[api.Line]()
	for _, l := range []api.Line{full(), {}, goods[0].line} {
		areSame(t, true, l, l)
		for i := range kind.NumField() {
			some := values(kind.Field(i).Type)
			for _, v := range some {
				for _, w := range some {
					a, b := l, l
					reflect.ValueOf(&a).Elem().Field(i).Set(reflect.ValueOf(v))
					reflect.ValueOf(&b).Elem().Field(i).Set(reflect.ValueOf(w))
					areSame(t, alike(a, b), a, b)
				}
			}
		}
	}
}

// A number, and each number of each list, that differs in one bit alone; a list that is longer, shorter, turned round.
func TestSameOfLinesUnlikeInOneBit(t *testing.T) {
	for i := range 64 {
		a, b := full(), full()
		b.Mac ^= 1 << i
		areSame(t, false, a, b)
		for _, turn := range []func(l *api.Line) *int{
			func(l *api.Line) *int { return &l.Row }, func(l *api.Line) *int { return &l.Kind }, func(l *api.Line) *int { return &l.Bits }, func(l *api.Line) *int { return &l.Vlan }, func(l *api.Line) *int { return &l.Num }, func(l *api.Line) *int { return &l.Cost },
			func(l *api.Line) *int { return &l.Tagged[0] }, func(l *api.Line) *int { return &l.Tagged[1] }, func(l *api.Line) *int { return &l.Imports[0] }, func(l *api.Line) *int { return &l.Imports[1] }, func(l *api.Line) *int { return &l.Exports[0] }, func(l *api.Line) *int { return &l.Exports[1] },
		} {
			b = full()
			*turn(&b) ^= 1 << i
			areSame(t, false, a, b)
		}
		for _, turn := range []func(l *api.Line) *uint32{func(l *api.Line) *uint32 { return &l.Addr }, func(l *api.Line) *uint32 { return &l.Addrs[0] }, func(l *api.Line) *uint32 { return &l.Addrs[1] }} {
			b = full()
			*turn(&b) ^= 1 << (i % 32)
			areSame(t, false, a, b)
		}
	}
	for _, turn := range []func(l *api.Line){
		func(l *api.Line) { l.Tagged = l.Tagged[:1] }, func(l *api.Line) { l.Imports = l.Imports[:1] }, func(l *api.Line) { l.Exports = l.Exports[:1] }, func(l *api.Line) { l.Addrs = l.Addrs[:1] },
		func(l *api.Line) { l.Tagged = nil }, func(l *api.Line) { l.Imports = nil }, func(l *api.Line) { l.Exports = nil }, func(l *api.Line) { l.Addrs = nil },
		func(l *api.Line) { l.Tagged = append(l.Tagged, 0) }, func(l *api.Line) { l.Imports = append(l.Imports, 0) }, func(l *api.Line) { l.Exports = append(l.Exports, 0) }, func(l *api.Line) { l.Addrs = append(l.Addrs, 0) },
		func(l *api.Line) { slices.Reverse(l.Tagged) }, func(l *api.Line) { slices.Reverse(l.Imports) }, func(l *api.Line) { slices.Reverse(l.Exports) }, func(l *api.Line) { slices.Reverse(l.Addrs) },
		func(l *api.Line) { l.Dev, l.Port = l.Port, l.Dev }, func(l *api.Line) { l.Peer, l.Far = l.Far, l.Peer }, func(l *api.Line) { l.Port, l.Name = l.Name, l.Port }, func(l *api.Line) { l.Tagged, l.Imports = l.Imports, l.Tagged },
	} {
		other := full()
		turn(&other)
		areSame(t, false, full(), other)
		areSame(t, true, other, stmt.Copy(other))
	}
}

func TestSameOfListsThatAreNilAndEmpty(t *testing.T) {
	empty := api.Line{Tagged: []int{}, Imports: []int{}, Exports: []int{}, Addrs: []uint32{}}
	behind := api.Line{Tagged: upTo(1, 4)[:0], Imports: upTo(5, 4)[:0], Exports: upTo(9, 4)[:0], Addrs: upTo[uint32](13, 4)[:0]}
	areSame(t, true, api.Line{}, empty)
	areSame(t, true, api.Line{}, behind)
	areSame(t, true, empty, behind)
	// What lies behind a list's length is not asked.
	a, b := full(), full()
	a.Tagged, b.Tagged = []int{1, 2, 3}[:2], []int{1, 2, 4}[:2]
	a.Addrs, b.Addrs = []uint32{1, 2, 3}[:2], []uint32{1, 2, 4}[:2]
	areSame(t, true, a, b)
}

func TestSameOfEachTwoLines(t *testing.T) {
	for _, c := range goods {
		for _, d := range goods {
			// An access port and a trunk of one VLAN are one line.
			areSame(t, alike(c.line, d.line), c.line, d.line)
		}
		areSame(t, false, withRow(c.line, 1), withRow(c.line, 2))
	}
}

// P11.2: Copy

// lines are lines that may be, and that may not.
func lines() []api.Line {
	l := []api.Line{{}, full(), {Kind: -1, Dev: "A", Tagged: []int{}, Addrs: []uint32{}}, {Kind: 10, Imports: []int{3, 2, 1}, Exports: []int{-1, 0}, Addrs: []uint32{9, 9, 0}}}
	for _, c := range goods {
		l = append(l, c.line)
		turned(c.line, func(_ string, l1 api.Line) { l = append(l, l1) })
	}
	return l
}

// hidden lies behind a list's length, and in no list.
const hidden = 987654321

// roomy is a line whose lists, each of its own memory, have something behind.
func roomy(l api.Line) api.Line {
	for _, list := range []*[]int{&l.Tagged, &l.Imports, &l.Exports} {
		*list = append(slices.Clone(*list), hidden, hidden, hidden)[:len(*list)]
	}
	l.Addrs = append(slices.Clone(l.Addrs), hidden, hidden, hidden)[:len(l.Addrs)]
	return l
}

// behind tells a line's lists, with what lies behind them.
func behind(l api.Line) string {
	s := listText(l.Tagged[:cap(l.Tagged)]) + ";" + listText(l.Imports[:cap(l.Imports)]) + ";" + listText(l.Exports[:cap(l.Exports)]) + ";"
	for _, a := range l.Addrs[:cap(l.Addrs)] {
		s += addrText(a) + ","
	}
	return s
}

func TestCopyIsAlikeAndOfItsOwnMemory(t *testing.T) {
	for _, l := range lines() {
		line := roomy(l)
		was := behind(line)
		got := stmt.Copy(line)
		if !alike(got, l) || !stmt.Same(got, l) || stmt.Right(got) != stmt.Right(l) {
			t.Errorf("Copy of %+v: %+v", l, got)
		}
		if room := behind(got); strings.Contains(room, strconv.Itoa(hidden)) || strings.Contains(room, addrText(hidden)) {
			t.Errorf("Copy of %+v has what lies behind its lists: %s", l, room)
		}
		also := stmt.Copy(line)
		spoil(got)
		if !alike(line, l) || behind(line) != was {
			t.Errorf("with its copy %+v is turned to %+v", l, line)
		}
		got = stmt.Copy(line)
		shareNothing(t, "Copy", got)
		got = stmt.Copy(line)
		spoil(line)
		if !alike(got, l) || !alike(also, l) {
			t.Errorf("with its line a copy of %+v is turned to %+v, %+v", l, got, also)
		}
	}
}

// Each number of each list is turned, in the copy and in the line.
func TestCopyOfListsTurned(t *testing.T) {
	for i := range 2 {
		for _, turn := range []func(l api.Line){
			func(l api.Line) { l.Tagged[i] = 99 }, func(l api.Line) { l.Imports[i] = 99 }, func(l api.Line) { l.Exports[i] = 99 }, func(l api.Line) { l.Addrs[i] = 99 },
		} {
			line := full()
			got := stmt.Copy(line)
			turn(got)
			if !alike(line, full()) || alike(got, full()) {
				t.Errorf("with its copy a line is turned to %+v", line)
			}
			got = stmt.Copy(line)
			turn(line)
			if !alike(got, full()) || alike(line, full()) {
				t.Errorf("with its line a copy is turned to %+v", got)
			}
		}
	}
}

func TestCopyHasItsOwnNames(t *testing.T) {
	l := api.Line{Dev: strings.Repeat("a", 9), Port: strings.Repeat("b", 9), Peer: strings.Repeat("c", 9), Far: strings.Repeat("d", 9), Name: strings.Repeat("e", 9)}
	got := stmt.Copy(l)
	if !alike(got, l) || inside(got.Dev, l.Dev) || inside(got.Port, l.Port) || inside(got.Peer, l.Peer) || inside(got.Far, l.Far) || inside(got.Name, l.Name) {
		t.Errorf("a copy's name lies in its line's memory: %+v", got)
	}
}

func TestRightAndSameLeaveWhatIsHandedIn(t *testing.T) {
	for _, l := range lines() {
		line, other := roomy(l), roomy(l)
		was := behind(line)
		stmt.Right(line)
		stmt.Same(line, other)
		stmt.Copy(line)
		if !alike(line, l) || !alike(other, l) || behind(line) != was || behind(other) != was {
			t.Errorf("%+v is turned to %+v and %+v", l, line, other)
		}
	}
}

// P11.3

func TestWhatIsReadIsRightWithAnyRow(t *testing.T) {
	for _, l := range lines() {
		words := wordsOf(l)
		for _, row := range rows {
			got, e := stmt.Read(words, row)
			if e != api.OK {
				continue
			}
			isRight(t, true, got)
			areSame(t, saidRight(l), got, withRow(l, row))
			for _, other := range rows {
				again, _ := stmt.Read(words, other)
				areSame(t, row == other, got, again)
				areSame(t, true, withRow(got, other), again)
			}
		}
	}
}
