package text_test

import (
	"math"
	"slices"
	"strconv"
	"testing"

	"paling/api"
	"paling/stmt"
	"paling/text"
)

// P12.2

// turned are ways to make a line another one, in one field alone or in one beside its Row, by names.
func turned() map[string]func(l *api.Line) {
	return map[string]func(l *api.Line){
		"Kind":            func(l *api.Line) { l.Kind++ },
		"Dev":             func(l *api.Line) { l.Dev += "x" },
		"Port":            func(l *api.Line) { l.Port += "x" },
		"Peer":            func(l *api.Line) { l.Peer += "x" },
		"Far":             func(l *api.Line) { l.Far += "x" },
		"Name":            func(l *api.Line) { l.Name += "x" },
		"Mac":             func(l *api.Line) { l.Mac ^= 1 },
		"Mac's highest":   func(l *api.Line) { l.Mac ^= 1 << 63 },
		"Addr":            func(l *api.Line) { l.Addr ^= 1 },
		"Addr's highest":  func(l *api.Line) { l.Addr ^= 1 << 31 },
		"Bits":            func(l *api.Line) { l.Bits++ },
		"Vlan":            func(l *api.Line) { l.Vlan = -l.Vlan - 1 },
		"Num":             func(l *api.Line) { l.Num ^= 1 << 20 },
		"Cost":            func(l *api.Line) { l.Cost-- },
		"Tagged":          func(l *api.Line) { l.Tagged = append(slices.Clone(l.Tagged), 0) },
		"Imports":         func(l *api.Line) { l.Imports = append(slices.Clone(l.Imports), 0) },
		"Exports":         func(l *api.Line) { l.Exports = append(slices.Clone(l.Exports), 0) },
		"Addrs":           func(l *api.Line) { l.Addrs = append(slices.Clone(l.Addrs), 0) },
		"Tagged's first":  func(l *api.Line) { l.Tagged = first(l.Tagged) },
		"Imports's first": func(l *api.Line) { l.Imports = first(l.Imports) },
		"Exports's first": func(l *api.Line) { l.Exports = first(l.Exports) },
		"Addrs's first":   func(l *api.Line) { l.Addrs = first(l.Addrs) },
		"Row and Kind":    func(l *api.Line) { l.Row, l.Kind = l.Row+1, l.Kind+1 },
		"Row and Dev":     func(l *api.Line) { l.Row, l.Dev = l.Row+1, l.Dev+"x" },
		"Row and Num":     func(l *api.Line) { l.Row, l.Num = l.Row-1, l.Num+1 },
		"Kind for Row":    func(l *api.Line) { l.Row, l.Kind = l.Kind, l.Row+100 },
		"Tagged for Addrs": func(l *api.Line) {
			l.Tagged, l.Addrs = append(slices.Clone(l.Tagged), 1), append(slices.Clone(l.Addrs), 1)
		},
	}
}

// first is a list with another first number, or with one where it has none.
func first[T int | uint32](l []T) []T {
	if len(l) == 0 {
		return []T{9}
	}
	l = slices.Clone(l)
	l[0]++
	return l
}

// some are lines of all kinds, and lines that may not be.
func some() []api.Line {
	var lines []api.Line
	for i, g := range goods {
		lines = append(lines, at(i+1, g.line))
	}
	full := api.Line{Row: 14, Kind: 99, Dev: "A b", Port: "#", Peer: "\x00", Far: "far", Name: "", Mac: math.MaxUint64, Addr: 7, Bits: -1, Vlan: 9999, Num: math.MinInt, Cost: math.MaxInt, Tagged: []int{3, 2, 2}, Imports: []int{0}, Exports: []int{-5, 5}, Addrs: []uint32{0, 0}}
	return append(lines, full, api.Line{}, api.Line{Row: -3, Kind: -1})
}

// copies are lines of memory of their own.
func copies(l []api.Line) []api.Line {
	var own []api.Line
	for _, one := range l {
		own = append(own, stmt.Copy(one))
	}
	return own
}

// areSame asks either way round whether lists are the same but for Rows.
func areSame(t *testing.T, what string, a, b []api.Line, want bool) {
	t.Helper()
	if text.Same(a, b) != want || text.Same(b, a) != want {
		t.Errorf("%s: Same of %d and %d lines is %v, and the other way round %v", what, len(a), len(b), text.Same(a, b), text.Same(b, a))
	}
}

func TestSameOfNoLines(t *testing.T) {
	empty := make([]api.Line, 0, 4)
	areSame(t, "nil and nil", nil, nil, true)
	areSame(t, "nil and an empty list", nil, empty, true)
	areSame(t, "two empty lists", empty, []api.Line{}, true)
	for _, l := range some() {
		areSame(t, "nil and a line", nil, []api.Line{l}, false)
		areSame(t, "an empty list and a line", empty, []api.Line{l}, false)
	}
	// What lies behind a list's length is none of it.
	areSame(t, "two lists of other lines behind their ends", some()[:0], some()[3:3], true)
}

func TestSameOfAsManyAlike(t *testing.T) {
	all := some()
	for n := range len(all) + 1 {
		areSame(t, "a list and itself", all[:n], all[:n], true)
		areSame(t, "a list and a copy", all[:n], copies(all[:n]), true)
		areSame(t, "two ends of a list", copies(all)[n:], all[n:], true)
	}
	for _, l := range all {
		areSame(t, "a line and a copy", []api.Line{l}, []api.Line{stmt.Copy(l)}, true)
	}
}

func TestSameOfMoreAndFewer(t *testing.T) {
	all := some()
	for n := range len(all) + 1 {
		for m := range len(all) + 1 {
			areSame(t, "so many of a list's lines", all[:n], all[:m], n == m)
			if n != m {
				areSame(t, "so many of a list's last lines", all[n:], all[m:], false)
			}
			// Each is the same, so that their number alone tells them apart.
			areSame(t, "so many of a line", slices.Repeat(all[:1], n), slices.Repeat(all[:1], m), n == m)
			areSame(t, "so many lines of nothing", make([]api.Line, n), make([]api.Line, m), n == m)
		}
	}
	for i := range all {
		areSame(t, "a list without line "+strconv.Itoa(i), all, slices.Delete(copies(all), i, i+1), false)
		areSame(t, "a list with one line more at "+strconv.Itoa(i), all, slices.Insert(copies(all), i, all[i]), false)
	}
}

// Lines whose Rows differ: of one line, in each place, of each two, and of all.
func TestSameAsksNothingOfRows(t *testing.T) {
	all := some()
	numbers := []int{0, 1, -1, 2, 77, 400, 401, math.MaxInt, math.MinInt}
	for i := range all {
		for _, n := range numbers {
			other := copies(all)
			other[i].Row = n
			areSame(t, "another Row in place "+strconv.Itoa(i), all, other, true)
			for j := range all {
				two := copies(other)
				two[j].Row = n - 1
				areSame(t, "other Rows in places "+strconv.Itoa(i)+" and "+strconv.Itoa(j), all, two, true)
			}
			areSame(t, "another Row alone", all[i:i+1], other[i:i+1], true)
		}
	}
	for _, n := range numbers {
		other := copies(all)
		for i := range other {
			other[i].Row = n - i
		}
		areSame(t, "other Rows in all places", all, other, true)
	}
}

// Lines that differ in one field alone: in the first, in each middle and in the last place, and alone.
func TestSameAsksEachOtherField(t *testing.T) {
	all := some()
	for what, turn := range turned() {
		for i := range all {
			other := copies(all)
			turn(&other[i])
			areSame(t, what+" in place "+strconv.Itoa(i), all, other, false)
			areSame(t, what+" alone", all[i:i+1], other[i:i+1], false)
			areSame(t, what+" in the last place", all[:i+1], other[:i+1], false)
			areSame(t, what+" in the first place", all[i:], other[i:], false)
			// With other Rows, too, it is not the same.
			for j := range other {
				other[j].Row += 5
			}
			areSame(t, what+" and Rows in place "+strconv.Itoa(i), all, other, false)
		}
	}
}

func TestSameAsksTheOrder(t *testing.T) {
	all := some()
	for i := range all {
		for j := range i {
			other := copies(all)
			other[i], other[j] = other[j], other[i]
			// An access port and a trunk of one Vlan alone are alike, and they stand among the lines.
			areSame(t, "lines "+strconv.Itoa(i)+" and "+strconv.Itoa(j)+" exchanged", all, other, stmt.Same(at(0, all[i]), at(0, all[j])))
		}
	}
	two := []api.Line{goods[0].line, goods[1].line}
	areSame(t, "as many lines, each of which is in the other list", []api.Line{two[0], two[0], two[1]}, []api.Line{two[0], two[1], two[1]}, false)
	areSame(t, "two lines exchanged", two, []api.Line{two[1], two[0]}, false)
}

// Lists within lines that have nothing may be nil or empty.
func TestSameOfLinesWithEmptyLists(t *testing.T) {
	for _, l := range some() {
		other := stmt.Copy(l)
		for _, list := range []*[]int{&other.Tagged, &other.Imports, &other.Exports} {
			if len(*list) == 0 {
				*list = make([]int, 0, 3)
			}
		}
		if len(other.Addrs) == 0 {
			other.Addrs = make([]uint32, 0, 3)
		}
		other.Row++
		areSame(t, "nil and empty lists within", []api.Line{l, l}, []api.Line{other, l}, true)
	}
}

// What was handed in reads afterwards as it did, what lies behind the lists' ends too.
func TestSameLeavesWhatIsHandedIn(t *testing.T) {
	a, b := roomy(some()), roomy(some())
	for i := range b {
		b[i].Row += 50
	}
	wasA, wasB := rooms(a), rooms(b)
	n := len(a) - 2
	for m := range n + 1 {
		text.Same(a[:n], b[:m])
		text.Same(b[:m], a[:n])
	}
	if !agree(rooms(a), wasA) || !agree(rooms(b), wasB) {
		t.Errorf("what is handed in is changed: %+v, %+v", a, b)
	}
	for what, turn := range turned() {
		c := roomy(some())
		turn(&c[n/2])
		was := rooms(c)
		text.Same(a[:n], c[:n])
		text.Same(c[:n], b[:n])
		if !agree(rooms(a), wasA) || !agree(rooms(b), wasB) || !agree(rooms(c), was) {
			t.Errorf("what is handed in, with another %s, is changed: %+v, %+v, %+v", what, a, b, c)
		}
	}
}

// roomy are lines whose lists have numbers behind their ends.
func roomy(lines []api.Line) []api.Line {
	for i := range lines {
		for _, list := range []*[]int{&lines[i].Tagged, &lines[i].Imports, &lines[i].Exports} {
			*list = append(slices.Clone(*list), 5, 6)[:len(*list)]
		}
		lines[i].Addrs = append(slices.Clone(lines[i].Addrs), 5, 6)[:len(lines[i].Addrs)]
	}
	return lines
}

// rooms are copies of lines, in whose lists is what lies behind their ends, too.
func rooms(lines []api.Line) []api.Line {
	lines = slices.Clone(lines)
	for i := range lines {
		for _, list := range []*[]int{&lines[i].Tagged, &lines[i].Imports, &lines[i].Exports} {
			*list = (*list)[:cap(*list)]
		}
		lines[i].Addrs = lines[i].Addrs[:cap(lines[i].Addrs)]
	}
	return copies(lines)
}

// Same of texts that are read.
func TestSameOfTexts(t *testing.T) {
	for _, c := range []struct {
		a, b string
		same bool
	}{
		{"", "", true},
		{"", "\n# r\n \t\n", true},
		{"", "vtep a 10.0.0.1", false},
		{"vtep a 10.0.0.1", "\n\n\tvtep  a 10.0.0.1 # r", true},
		{"vtep a 10.0.0.1", "vtep a 10.0.0.2", false},
		{"vtep a 10.0.0.1", "vtep b 10.0.0.1", false},
		{"vtep a 10.0.0.1", "vtep a 10.0.0.1\nvtep a 10.0.0.1", false},
		{"vtep a 10.0.0.1\nvtep b 10.0.0.2", "vtep b 10.0.0.2\nvtep a 10.0.0.1", false},
		{"port a p 1 access 10", "port a p 1 trunk 10 -", true},
		{"port a p 1 trunk 10 20", "port a p 1 trunk 10 20,30", false},
		{"vrf a red 1 2", "vrf a red 2 1", false},
		{"flood a 1 10.0.0.1", "flood a 1 10.0.0.2", false},
		{"static a 1 00:00:00:00:00:01 p", "static a 1 00:00:00:00:00:11 p", false},
	} {
		a, _, e := text.Read([]byte(c.a))
		b, _, f := text.Read([]byte(c.b))
		if e != api.OK || f != api.OK {
			t.Fatalf("%q, %q: %d, %d", c.a, c.b, e, f)
		}
		areSame(t, strconv.Quote(c.a)+" and "+strconv.Quote(c.b), a, b, c.same)
	}
}
