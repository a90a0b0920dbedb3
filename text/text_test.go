package text_test

import (
	"bytes"
	"slices"
	"strings"
	"testing"
	"unsafe"

	"paling/api"
	"paling/stmt"
	"paling/text"
)

const (
	mostBytes = 20000
	mostRows  = 400
)

// good is a row that has a line, and the line, whose Row is that of a text that begins with it.
type good struct {
	row  string
	line api.Line
}

// goods are rows of each kind of line, and of a port in each form.
var goods = []good{
	{"device sw1 32768 00:00:00:00:00:01", api.Line{Row: 1, Kind: 1, Dev: "sw1", Num: 32768, Mac: 1}},
	{"port sw1 p1 4 access 10", api.Line{Row: 1, Kind: 2, Dev: "sw1", Port: "p1", Cost: 4, Vlan: 10}},
	{"port sw1 p1 4 trunk 10 -", api.Line{Row: 1, Kind: 2, Dev: "sw1", Port: "p1", Cost: 4, Vlan: 10}},
	{"port sw1 p1 4 trunk - 10,20", api.Line{Row: 1, Kind: 2, Dev: "sw1", Port: "p1", Cost: 4, Tagged: []int{10, 20}}},
	{"port sw1 p1 4 trunk 30 10,20", api.Line{Row: 1, Kind: 2, Dev: "sw1", Port: "p1", Cost: 4, Vlan: 30, Tagged: []int{10, 20}}},
	{"link a p1 b p2", api.Line{Row: 1, Kind: 3, Dev: "a", Port: "p1", Peer: "b", Far: "p2"}},
	{"static a 10 00:00:00:00:00:02 p1", api.Line{Row: 1, Kind: 4, Dev: "a", Vlan: 10, Mac: 2, Port: "p1"}},
	{"vtep a 10.0.0.1", api.Line{Row: 1, Kind: 5, Dev: "a", Addr: 0x0a000001}},
	{"vni a 10 5010", api.Line{Row: 1, Kind: 6, Dev: "a", Vlan: 10, Num: 5010}},
	{"flood a 5010 10.0.0.1,10.0.0.2", api.Line{Row: 1, Kind: 7, Dev: "a", Num: 5010, Addrs: []uint32{0x0a000001, 0x0a000002}}},
	{"vrf a red 1,2 7,8,9", api.Line{Row: 1, Kind: 8, Dev: "a", Name: "red", Imports: []int{1, 2}, Exports: []int{7, 8, 9}}},
	{"vrf a red - -", api.Line{Row: 1, Kind: 8, Dev: "a", Name: "red"}},
	{"irb a 10 red 10.0.0.1/24", api.Line{Row: 1, Kind: 9, Dev: "a", Vlan: 10, Name: "red", Addr: 0x0a000001, Bits: 24}},
}

// bad is a row that is refused.
type bad struct {
	row string
	e   api.Errno
}

// bads are rows that are refused: the first ones by their words, the others by the line that these are to be.
var bads = []bad{
	{"vtep a 10.0.0.1\x00", api.ErrWord},
	{"\x7f", api.ErrWord},
	{"vtep a 10.0.0.1\r", api.ErrWord},
	{"vtep \u00e4 10.0.0.1", api.ErrWord},
	{"link a p b " + strings.Repeat("p", api.MaxWord+1), api.ErrWord},
	// What is wrong with the words goes ahead of what is wrong with the line.
	{"what \x01", api.ErrWord},
	{"vtep \x80", api.ErrWord},
	{"vtep a 10.0.0.1 \xff", api.ErrWord},
	{"vtep a 10.0.0 \v", api.ErrWord},
	{"what " + strings.Repeat("w", api.MaxWord+1), api.ErrWord},
	{"what", api.ErrLine},
	{"Vtep a 10.0.0.1", api.ErrLine},
	{"vtep", api.ErrLine},
	{"vtep a", api.ErrLine},
	{"vtep a # 10.0.0.1", api.ErrLine},
	{"vtep a 10.0.0.1 10.0.0.2", api.ErrLine},
	{"vtep a " + strings.Repeat("1", api.MaxWord) + " b", api.ErrLine},
	{"port a p 1 trunk 10", api.ErrLine},
	{"vtep A 10.0.0.1", api.ErrWord},
	{"link a p b 9", api.ErrWord},
	{"port a p 1 what 10", api.ErrWord},
	{"vtep a 10.0.0", api.ErrNumber},
	{"vtep a 0.0.0.0", api.ErrNumber},
	{"vtep a " + strings.Repeat("1", api.MaxWord), api.ErrNumber},
	{"vni a 4095 1", api.ErrNumber},
	{"port a p 1 trunk 10 10,20", api.ErrNumber},
	{"irb a 10 red 10.0.0.0/24", api.ErrNumber},
}

// blanks are rows without words.
var blanks = []string{"", " ", "\t", " \t  \t ", "#", "# vtep a 10.0.0.1", " \t# a remark", "#\x00 \xff#", "##", "\t#\t", "#what " + strings.Repeat("w", 300)}

// begin is the beginning of a text, to tell of it.
func begin(s string) string { return s[:min(len(s), 200)] }

// beginOf is the beginning of a list, to tell of it.
func beginOf(l []api.Line) []api.Line { return l[:min(len(l), 8)] }

// at is a line with another Row.
func at(row int, l api.Line) api.Line {
	l.Row = row
	return l
}

// agree tells whether two lists have the same lines, Rows too.
func agree(a, b []api.Line) bool { return slices.EqualFunc(a, b, stmt.Same) }

// isRead asks that a text has just these lines, and tells of no row.
func isRead(t *testing.T, s string, want ...api.Line) {
	t.Helper()
	if got, row, e := text.Read([]byte(s)); e != api.OK || row != 0 || !agree(got, want) {
		t.Errorf("Read of %d bytes %q: %d, %+v, %d, %d; not %d, %+v", len(s), begin(s), len(got), beginOf(got), row, e, len(want), beginOf(want))
	}
}

// refuses asks that a text is refused at a row, and that no line goes with it, behind its list's end neither.
func refuses(t *testing.T, s string, at int, want api.Errno) {
	t.Helper()
	if got, row, e := text.Read([]byte(s)); e != want || row != at || len(got) > 0 || cap(got) > 0 && !stmt.Same(got[:1][0], api.Line{}) {
		t.Errorf("Read of %d bytes %q: %d, %+v, %d, %d; not none, %d, %d", len(s), begin(s), len(got), beginOf(got), row, e, at, want)
	}
}

// said reads a text by the chapter's words.
func said(b []byte) (lines []api.Line, row int, e api.Errno) {
	rows := strings.Split(string(b), "\n")
	if rows[len(rows)-1] == "" {
		rows = rows[:len(rows)-1]
	}
	if len(b) > mostBytes || len(rows) > mostRows {
		return nil, 0, api.ErrBig
	}
	for i, r := range rows {
		ahead, _, _ := strings.Cut(r, "#")
		words := strings.FieldsFunc(ahead, func(c rune) bool { return c == ' ' || c == '\t' })
		if slices.ContainsFunc(words, noWord) {
			return nil, i + 1, api.ErrWord
		}
		if len(words) == 0 {
			continue
		}
		l, e := stmt.Read(words, i+1)
		if e != api.OK {
			return nil, i + 1, e
		}
		lines = append(lines, l)
	}
	return lines, 0, api.OK
}

// noWord tells whether a text that has no blank is no word.
func noWord(s string) bool {
	return len(s) > api.MaxWord || strings.IndexFunc(s, func(c rune) bool { return c < 33 || c > 126 }) >= 0
}

// held holds Read against the chapter's words.
func held(t *testing.T, s string) {
	t.Helper()
	got, row, e := text.Read([]byte(s))
	want, at, not := said([]byte(s))
	if e != not || row != at || !agree(got, want) {
		t.Fatalf("Read of %d bytes %q: %d, %+v, %d, %d; not %d, %+v, %d, %d", len(s), begin(s), len(got), beginOf(got), row, e, len(want), beginOf(want), at, not)
	}
}

// inside tells whether a piece lies in the memory of bytes.
func inside(piece string, b []byte) bool {
	at, from := uintptr(unsafe.Pointer(unsafe.StringData(piece))), uintptr(unsafe.Pointer(unsafe.SliceData(b)))
	return at >= from && at < from+uintptr(cap(b))
}

// P12.1

func TestReadOfNoByte(t *testing.T) {
	isRead(t, "")
	if got, row, e := text.Read(nil); e != api.OK || row != 0 || len(got) > 0 {
		t.Errorf("Read of nil: %+v, %d, %d", got, row, e)
	}
}

func TestReadOfEachKindOfLine(t *testing.T) {
	var rows []string
	var lines []api.Line
	for i, g := range goods {
		isRead(t, g.row, g.line)
		isRead(t, g.row+"\n", g.line)
		isRead(t, g.row+"\n"+g.row, g.line, at(2, g.line))
		for _, h := range goods {
			isRead(t, g.row+"\n"+h.row+"\n", g.line, at(2, h.line))
		}
		rows, lines = append(rows, g.row), append(lines, at(i+1, g.line))
	}
	isRead(t, strings.Join(rows, "\n"), lines...)
	isRead(t, strings.Join(rows, "\n")+"\n", lines...)
	// Nothing but their rows says in which order lines are.
	slices.Reverse(rows)
	slices.Reverse(lines)
	for i := range lines {
		lines[i].Row = i + 1
	}
	isRead(t, strings.Join(rows, "\n"), lines...)
}

// The example of the chapter.
func TestReadCountsRowsWithoutWords(t *testing.T) {
	isRead(t, "\nvtep a 10.0.0.1", api.Line{Row: 2, Kind: 5, Dev: "a", Addr: 0x0a000001})
}

// Of a configuration of some lines that belong together.
func TestReadOfAConfiguration(t *testing.T) {
	isRead(t, "# two switches\n"+
		"device a 4096 00:00:00:00:00:01\n"+
		"device b 32768\t00:00:00:00:00:02   # the other one\n"+
		"\n"+
		"  port a p1 4 access 10 # red's\n"+
		"\tport a p2 19 trunk 1 10,20\n"+
		"port b p1 19 trunk 1 10,20#as p2 of a\n"+
		"#port b p2 4 access 10\n"+
		"link a p2 b p1\n"+
		"   \n"+
		"vtep a 10.0.0.1",
		api.Line{Row: 2, Kind: 1, Dev: "a", Num: 4096, Mac: 1},
		api.Line{Row: 3, Kind: 1, Dev: "b", Num: 32768, Mac: 2},
		api.Line{Row: 5, Kind: 2, Dev: "a", Port: "p1", Cost: 4, Vlan: 10},
		api.Line{Row: 6, Kind: 2, Dev: "a", Port: "p2", Cost: 19, Vlan: 1, Tagged: []int{10, 20}},
		api.Line{Row: 7, Kind: 2, Dev: "b", Port: "p1", Cost: 19, Vlan: 1, Tagged: []int{10, 20}},
		api.Line{Row: 9, Kind: 3, Dev: "a", Port: "p2", Peer: "b", Far: "p1"},
		api.Line{Row: 11, Kind: 5, Dev: "a", Addr: 0x0a000001})
}

// Texts of so many bytes, whose lines stand ahead of, between and behind what fills them up.
func TestReadOfTexts20000BytesLong(t *testing.T) {
	if api.MaxText != mostBytes {
		t.Errorf("MaxText is %d", api.MaxText)
	}
	for _, g := range goods {
		for n := mostBytes - 2; n <= mostBytes+2; n++ {
			left := n - len(g.row)
			for _, s := range []string{
				g.row + "#" + strings.Repeat("r", left-1),
				g.row + strings.Repeat(" ", left),
				g.row + strings.Repeat("\t", left-1) + "\n",
				strings.Repeat(" ", left) + g.row,
			} {
				if len(s) != n {
					t.Fatalf("a text of %d bytes, not %d", len(s), n)
				}
				if n > mostBytes {
					refuses(t, s, 0, api.ErrBig)
				} else {
					isRead(t, s, g.line)
				}
			}
			s := "#" + strings.Repeat("r", left-2) + "\n" + g.row
			if n > mostBytes {
				refuses(t, s, 0, api.ErrBig)
			} else {
				isRead(t, s, at(2, g.line))
			}
		}
	}
	isRead(t, strings.Repeat("#", mostBytes))
	isRead(t, strings.Repeat(" ", mostBytes))
	for _, n := range []int{mostBytes + 1, 2 * mostBytes, 1 << 16, 1<<16 + 5, 1 << 20, 1<<24 + 7} {
		refuses(t, strings.Repeat("#", n), 0, api.ErrBig)
		refuses(t, strings.Repeat("a", n), 0, api.ErrBig)
		refuses(t, strings.Repeat("\n", n), 0, api.ErrBig)
	}
}

// As many rows as may be, of lines, of none, and of both.
func TestReadOfTexts400RowsLong(t *testing.T) {
	if api.MaxLines != mostRows {
		t.Errorf("MaxLines is %d", api.MaxLines)
	}
	for _, g := range goods {
		var lines []api.Line
		for i := range mostRows {
			lines = append(lines, at(i+1, g.line))
		}
		all := strings.Repeat(g.row+"\n", mostRows)
		isRead(t, all, lines...)
		isRead(t, all[:len(all)-1], lines...)
		isRead(t, strings.Repeat(g.row+"\n", mostRows-1), lines[:mostRows-1]...)
		isRead(t, strings.Repeat("\n", mostRows-1)+g.row, lines[mostRows-1])
		isRead(t, strings.Repeat("\n", mostRows-1)+g.row+"\n", lines[mostRows-1])
		isRead(t, g.row+strings.Repeat("\n", mostRows), lines[0])
		refuses(t, all+g.row, 0, api.ErrBig)
		refuses(t, all+"\n", 0, api.ErrBig)
		refuses(t, all+" ", 0, api.ErrBig)
		refuses(t, all+"#", 0, api.ErrBig)
		refuses(t, strings.Repeat("\n", mostRows)+g.row, 0, api.ErrBig)
		refuses(t, g.row+strings.Repeat("\n", mostRows+1), 0, api.ErrBig)
	}
	isRead(t, strings.Repeat("\n", mostRows))
	refuses(t, strings.Repeat("\n", mostRows+1), 0, api.ErrBig)
	for n := range 2*mostRows + 2 {
		held(t, strings.Repeat("vni a 10 5010\n", n))
		held(t, strings.Repeat("\n", n)+"vni a 10 5010")
		held(t, strings.Repeat("\nvni a 10 5010 \n", n/2))
	}
}

// What is wrong with the whole text goes ahead of what is wrong with any row of it.
func TestReadRefusesTooBigTextsAheadOfTheirRows(t *testing.T) {
	for _, b := range bads {
		for _, n := range []int{0, 1, mostRows / 2, mostRows - 1, mostRows} {
			refuses(t, strings.Repeat("\n", n)+b.row+strings.Repeat("\n", mostRows+1-n)+"#", 0, api.ErrBig)
		}
		fill := "#" + strings.Repeat("r", mostBytes)
		refuses(t, b.row+"\n"+fill, 0, api.ErrBig)
		refuses(t, b.row+"\nvtep a 10.0.0.1\n"+fill, 0, api.ErrBig)
		refuses(t, fill+"\n"+b.row, 0, api.ErrBig)
		refuses(t, strings.Repeat(b.row+"\n", mostRows+1), 0, api.ErrBig)
	}
}

// Each wrong row at each place among good ones, and among rows without words.
func TestReadTellsTheRowThatIsRefused(t *testing.T) {
	for _, b := range bads {
		refuses(t, b.row, 1, b.e)
		refuses(t, b.row+"\n", 1, b.e)
		for n := 2; n <= 7; n++ {
			for i := range n {
				for _, g := range goods {
					rows := slices.Repeat([]string{g.row}, n)
					rows[i] = b.row
					refuses(t, strings.Join(rows, "\n"), i+1, b.e)
					refuses(t, strings.Join(rows, "\n")+"\n", i+1, b.e)
				}
				for _, blank := range blanks {
					rows := slices.Repeat([]string{blank}, n)
					rows[i] = b.row
					refuses(t, strings.Join(rows, "\n"), i+1, b.e)
					refuses(t, strings.Join(rows, "\n")+"\n", i+1, b.e)
				}
			}
		}
		for i := range mostRows {
			refuses(t, strings.Repeat("\n", i)+b.row+strings.Repeat("\n", mostRows-i), i+1, b.e)
		}
		for _, row := range []string{"#", "vni a 10 5010", "link a p1 b p2"} {
			for _, i := range []int{0, 1, mostRows / 2, 254, 255, 256, 257, mostRows - 2, mostRows - 1} {
				rows := slices.Repeat([]string{row}, mostRows)
				rows[i] = b.row
				refuses(t, strings.Join(rows, "\n"), i+1, b.e)
			}
		}
	}
}

// Each two wrong rows at each two places: what stands behind the first one changes nothing.
func TestReadTellsTheFirstWrongRow(t *testing.T) {
	const n = 5
	for _, first := range bads {
		for _, then := range bads {
			for i := range n {
				for j := i + 1; j < n; j++ {
					rows := slices.Repeat([]string{"vni a 10 5010"}, n)
					rows[i], rows[j] = first.row, then.row
					refuses(t, strings.Join(rows, "\n"), i+1, first.e)
				}
			}
			refuses(t, "\n"+first.row+"\n"+strings.Repeat(then.row+"\n", 60), 2, first.e)
		}
	}
}

// Rows without words ahead of, between and behind lines.
func TestReadPassesRowsWithoutWords(t *testing.T) {
	for _, blank := range blanks {
		isRead(t, blank)
		isRead(t, blank+"\n")
		isRead(t, "\n"+blank+"\n")
		for _, other := range blanks {
			isRead(t, blank+"\n"+other)
		}
		for i, g := range goods {
			h := goods[(i+1)%len(goods)]
			isRead(t, blank+"\n"+g.row, at(2, g.line))
			isRead(t, g.row+"\n"+blank, g.line)
			isRead(t, g.row+"\n"+blank+"\n", g.line)
			isRead(t, g.row+"\n"+blank+"\n"+h.row, g.line, at(3, h.line))
			isRead(t, blank+"\n"+g.row+"\n"+blank+"\n"+blank+"\n"+h.row+"\n"+blank, at(2, g.line), at(5, h.line))
			for n := range 12 {
				isRead(t, strings.Repeat(blank+"\n", n)+g.row+"\n"+strings.Repeat(blank+"\n", n)+h.row, at(n+1, g.line), at(2*n+2, h.line))
			}
		}
	}
}

// Blanks and remarks of all kinds within rows.
func TestReadOfRowsWithBlanksAndRemarks(t *testing.T) {
	for _, g := range goods {
		words := strings.Fields(g.row)
		for _, blank := range []string{" ", "\t", "  ", " \t ", "\t\t\t"} {
			for _, ahead := range []string{"", blank} {
				for _, behind := range []string{"", blank, "#", blank + "#", "# vtep a 10.0.0.1", blank + "#\x00\xff" + blank, "##", "#" + strings.Repeat("w", 300)} {
					isRead(t, ahead+strings.Join(words, blank)+behind, g.line)
				}
			}
		}
	}
}

// Texts of all rows of a few, in each order, with and without a byte 10 behind the last one.
func TestReadOfAllTextsOfSomeRows(t *testing.T) {
	pool := []string{"", " \t", "# r", "vtep a 10.0.0.1", "vni a 10 5010 # r", " link a p b q", "what", "vtep a", "vtep A 1.2.3.4", "vtep a 1.2.3", "\x01"}
	level := []string{""}
	for range 4 {
		var next []string
		for _, s := range level {
			for _, row := range pool {
				held(t, s+row)
				next = append(next, s+row+"\n")
				held(t, s+row+"\n")
			}
		}
		level = next
	}
}

// Texts of all short bytes of some kinds around a line.
func TestReadOfAllShortTexts(t *testing.T) {
	signs := []string{"\n", " ", "#", "a", "\x00", "vtep a 1.2.3.4", "\t"}
	level := []string{""}
	for range 6 {
		var next []string
		for _, s := range level {
			held(t, s)
			for _, sign := range signs {
				next = append(next, s+sign)
			}
		}
		level = next
	}
}

// Each byte of a text put to each value, left out, and written twice.
func TestReadOfEachByteTurned(t *testing.T) {
	var rows []string
	for _, g := range goods {
		rows = append(rows, g.row)
	}
	for _, s := range []string{strings.Join(rows, "\n"), "# r\n\n vtep a 10.0.0.1\t# r\n\t\nvni a 10 5010\n"} {
		held(t, s)
		for i := range len(s) {
			held(t, s[:i]+s[i+1:])
			held(t, s[:i]+"\n"+s[i:])
			held(t, s[:i])
			held(t, s[i:])
			for b := range 256 {
				held(t, s[:i]+string([]byte{byte(b)})+s[i+1:])
			}
		}
	}
}

// What was handed in reads afterwards as it did, spare room too, and none of it is kept.
func TestReadLeavesAndKeepsNothingOfItsBytes(t *testing.T) {
	var rows []string
	for _, g := range goods {
		rows = append(rows, " "+g.row+" # r")
	}
	s := strings.Join(rows, "\n")
	room := []byte(s + "\nvtep b 10.0.0.2\n")
	was := bytes.Clone(room)
	got, row, e := text.Read(room[:len(s)])
	again, _, _ := text.Read(room[:len(s)])
	if e != api.OK || row != 0 || len(got) != len(goods) || !agree(got, again) {
		t.Fatalf("Read with spare room: %+v, %d, %d", got, row, e)
	}
	if !bytes.Equal(room, was) {
		t.Errorf("what is handed in is changed: %q", room)
	}
	for _, l := range got {
		for _, name := range []string{l.Dev, l.Port, l.Peer, l.Far, l.Name} {
			if name != "" && inside(name, room) {
				t.Errorf("%+v: the name %s lies in the text's memory", l, name)
			}
		}
	}
	clear(room)
	for i, l := range got {
		if !stmt.Same(l, at(i+1, goods[i].line)) {
			t.Errorf("lines change with the bytes that they were read of: %+v", l)
		}
	}
	spoil(got)
	for i, l := range again {
		if !stmt.Same(l, at(i+1, goods[i].line)) {
			t.Errorf("two answers share their memory: %+v", l)
		}
	}
	for _, b := range bads {
		room := []byte("vtep a 10.0.0.1\n" + b.row + "\nvtep b 10.0.0.2")
		was := bytes.Clone(room)
		if text.Read(room[:len(room)-5]); !bytes.Equal(room, was) {
			t.Errorf("what is refused is changed: %q", room)
		}
	}
	for _, big := range []string{strings.Repeat("a", mostBytes+1), strings.Repeat("\n", mostRows+1)} {
		room := []byte(big)
		if text.Read(room); string(room) != big {
			t.Error("what is too big is changed")
		}
	}
}

// spoil turns all that lines have, and what lies behind their lists, and behind them.
func spoil(lines []api.Line) {
	for _, l := range lines {
		for _, list := range [][]int{l.Tagged, l.Imports, l.Exports} {
			for i := range list[:cap(list)] {
				list[:cap(list)][i] = -7
			}
		}
		for i := range l.Addrs[:cap(l.Addrs)] {
			l.Addrs[:cap(l.Addrs)][i] = 0xdeadbeef
		}
	}
	clear(lines[:cap(lines)])
}

// No two lists of one answer share their memory, spare room too, of lines beside each other and of others.
func TestReadHandsOutListsOfTheirOwn(t *testing.T) {
	tagged, both, addrs := "port sw1 p1 4 trunk 30 10,20\n", "vrf a red 1,2 1,2\n", "flood a 1 10.0.0.1,10.0.0.2\n"
	for _, s := range []string{strings.Repeat(tagged, 4), strings.Repeat(both, 4), strings.Repeat(addrs, 4), strings.Repeat(tagged+both+addrs, 3)} {
		want, _, _ := text.Read([]byte(s))
		for i := range want {
			got, _, e := text.Read([]byte(s))
			if e != api.OK || !agree(got, want) {
				t.Fatalf("Read(%q): %+v, %d", s, got, e)
			}
			l := &got[i]
			for _, list := range []*[]int{&l.Tagged, &l.Imports, &l.Exports} {
				was := slices.Clone(*list)
				fill(append(*list, 1, 2))
				fill((*list)[:cap(*list)])
				*list = was
				if !agree(got, want) {
					t.Errorf("a list of line %d shares another one's memory: %+v", i, got)
				}
			}
			was := slices.Clone(l.Addrs)
			fill(append(l.Addrs, 1, 2))
			fill(l.Addrs[:cap(l.Addrs)])
			l.Addrs = was
			if !agree(got, want) {
				t.Errorf("the addresses of line %d share another one's memory: %+v", i, got)
			}
		}
	}
}

// fill puts another number to each of a list.
func fill[T int | uint32](l []T) {
	for i := range l {
		l[i] = 77
	}
}

// What is answered hangs on no call ahead of it.
func TestReadKeepsNothingFromCallToCall(t *testing.T) {
	texts := []string{"", "vtep a 10.0.0.1", "\n\nwhat", "vtep a 10.0.0.1\nvtep a", strings.Repeat("\n", mostRows+1), "\x01"}
	for _, ahead := range texts {
		for _, s := range texts {
			text.Read([]byte(ahead))
			held(t, s)
			text.Same(nil, nil)
			held(t, s)
		}
	}
}

// P12.3

// bases are texts of good rows.
func bases() [][]good {
	bases := [][]good{nil, goods}
	for i := range goods {
		bases = append(bases, goods[i:i+1], goods[:i])
	}
	return append(bases, slices.Repeat(goods[7:9], 20))
}

// rowsOf are the rows that lines are of.
func rowsOf(base []good) []string {
	var rows []string
	for _, g := range base {
		rows = append(rows, g.row)
	}
	return rows
}

// Rows without words put in at each place, one and three at once, change nothing but the Rows behind.
func TestRowsWithoutWordsChangeNothingButRows(t *testing.T) {
	for _, base := range bases() {
		rows := rowsOf(base)
		plain, _, e := text.Read([]byte(strings.Join(rows, "\n")))
		if e != api.OK || len(plain) != len(base) {
			t.Fatalf("%q: %+v, %d", rows, plain, e)
		}
		for _, blank := range blanks {
			for _, n := range []int{1, 3} {
				for place := range len(rows) + 1 {
					more := slices.Insert(slices.Clone(rows), place, slices.Repeat([]string{blank}, n)...)
					want := copies(plain)
					for i := range want[place:] {
						want[place+i].Row += n
					}
					isRead(t, strings.Join(more, "\n"), want...)
					got, _, _ := text.Read([]byte(strings.Join(more, "\n") + "\n"))
					areSame(t, "rows without words put in", got, plain, true)
				}
			}
		}
	}
}

// Blanks and remarks put into rows change nothing at all, and a remark may hold whatever a wrong row has.
func TestBlanksAndRemarksChangeNothing(t *testing.T) {
	for _, base := range bases() {
		rows := rowsOf(base)
		plain, _, _ := text.Read([]byte(strings.Join(rows, "\n")))
		for _, blank := range []string{" ", "\t", " \t\t "} {
			var spread []string
			for _, row := range rows {
				spread = append(spread, blank+strings.ReplaceAll(row, " ", blank)+blank)
			}
			isRead(t, strings.Join(spread, "\n"), plain...)
			for _, b := range bads {
				isRead(t, strings.Join(spread, "#"+b.row+"\n"), plain...)
			}
		}
		for _, b := range bads {
			isRead(t, strings.Join(rows, "#"+b.row+"\n"), plain...)
			isRead(t, strings.Join(rows, " # "+b.row+"\n"), plain...)
			var hidden []string
			for _, row := range rows {
				hidden = append(hidden, "#"+b.row, row)
			}
			got, row, e := text.Read([]byte(strings.Join(hidden, "\n")))
			if e != api.OK || row != 0 {
				t.Errorf("%q: %d, %d", hidden, row, e)
			}
			areSame(t, "wrong rows as remarks", got, plain, true)
		}
	}
}

// In a text with a wrong row what is put in behind it changes nothing, and what is put in ahead changes the row's number alone.
func TestWhatIsPutInAroundAWrongRow(t *testing.T) {
	for _, b := range bads {
		for place := range len(goods) + 1 {
			rows := slices.Insert(rowsOf(goods), place, b.row)
			refuses(t, strings.Join(rows, "\n"), place+1, b.e)
			for _, blank := range blanks {
				for i := range len(rows) + 1 {
					more := slices.Insert(slices.Clone(rows), i, blank)
					want := place + 1
					if i <= place {
						want++
					}
					refuses(t, strings.Join(more, "\n"), want, b.e)
				}
			}
			for _, behind := range []string{"", "\n", "what", "\x00", "vtep a", "# r", strings.Repeat("vtep\n", 300)} {
				refuses(t, strings.Join(rows[:place+1], "\n")+"\n"+behind, place+1, b.e)
			}
		}
	}
}
