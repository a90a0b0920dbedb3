package line_test

import (
	"bytes"
	"slices"
	"strings"
	"testing"
	"unsafe"

	"paling/api"
	"paling/line"
)

const (
	mostBytes = 20000
	mostRows  = 400
)

// full is a word of as many bytes as a word may have, and over has one more.
var (
	full = strings.Repeat("w", api.MaxWord)
	over = strings.Repeat("w", api.MaxWord+1)
)

// begin is the beginning of a text, to tell of it.
func begin[T string | []byte](s T) T { return s[:min(len(s), 80)] }

// beginOf is the beginning of a list, to tell of it.
func beginOf(l []string) []string { return l[:min(len(l), 8)] }

// grow hands each text of so many of these signs or less to one.
func grow(signs string, count int, one func(s string)) {
	level := []string{""}
	for range count + 1 {
		var next []string
		for _, s := range level {
			one(s)
			for i := range len(signs) {
				next = append(next, s+signs[i:i+1])
			}
		}
		level = next
	}
}

// inside tells whether a piece lies in the memory of a text.
func inside(piece, text string) bool {
	at, from := uintptr(unsafe.Pointer(unsafe.StringData(piece))), uintptr(unsafe.Pointer(unsafe.StringData(text)))
	return at >= from && at < from+uintptr(len(text))
}

// P10.1

// saidRows are a text's rows by the chapter's words.
func saidRows(b []byte) ([]string, api.Errno) {
	rows := strings.Split(string(b), "\n")
	if rows[len(rows)-1] == "" {
		rows = rows[:len(rows)-1]
	}
	if len(b) > mostBytes || len(rows) > mostRows {
		return nil, api.ErrBig
	}
	return rows, api.OK
}

// areRows asks that a text has just these rows.
func areRows(t *testing.T, s string, want []string) {
	t.Helper()
	if got, e := line.Rows([]byte(s)); e != api.OK || !slices.Equal(got, want) {
		t.Errorf("Rows of %d bytes %q: %d, %q, %d; not %d, %q", len(s), begin(s), len(got), beginOf(got), e, len(want), beginOf(want))
	}
}

// tooBig asks that a text is refused, with nothing beside the error.
func tooBig(t *testing.T, s string) {
	t.Helper()
	if got, e := line.Rows([]byte(s)); e != api.ErrBig || len(got) > 0 {
		t.Errorf("Rows of %d bytes %q: %d, %q, %d", len(s), begin(s), len(got), beginOf(got), e)
	}
}

// heldRows holds Rows against the chapter's words.
func heldRows(t *testing.T, b []byte) {
	t.Helper()
	got, e := line.Rows(b)
	want, not := saidRows(b)
	if e != not || !slices.Equal(got, want) {
		t.Fatalf("Rows of %d bytes %q: %d, %q, %d; not %d, %q, %d", len(b), begin(b), len(got), beginOf(got), e, len(want), beginOf(want), not)
	}
}

func TestRowsStandAheadOfEachByte10(t *testing.T) {
	for s, want := range map[string][]string{
		"":             nil,
		"a":            {"a"},
		"a\n":          {"a"},
		"\n":           {""},
		"\n\n":         {"", ""},
		"\na":          {"", "a"},
		"a\n\n":        {"a", ""},
		"a\n\nb":       {"a", "", "b"},
		"a\nb":         {"a", "b"},
		"a\nb\n":       {"a", "b"},
		"\n\na\n":      {"", "", "a"},
		"\n\n\nb":      {"", "", "", "b"},
		"abc\nde\nf":   {"abc", "de", "f"},
		" ":            {" "},
		"\n ":          {"", " "},
		"a b\n\tc #d ": {"a b", "\tc #d "},
	} {
		areRows(t, s, want)
	}
	if got, e := line.Rows(nil); e != api.OK || len(got) != 0 {
		t.Errorf("Rows of nil: %q, %d", got, e)
	}
}

// Nothing but a byte 10 ends a row, and a row keeps whatever it has.
func TestRowsKeepEachOtherByte(t *testing.T) {
	for c := range 256 {
		b := string([]byte{byte(c)})
		if c == '\n' {
			continue
		}
		areRows(t, b, []string{b})
		areRows(t, "a"+b+"c\nd", []string{"a" + b + "c", "d"})
		areRows(t, "a\n"+b, []string{"a", b})
		areRows(t, b+"\n"+b+b+"\n\n"+b+"\n", []string{b, b + b, "", b})
	}
	areRows(t, "a\r\nb\rc\u2028d\u0085e\ve\f\n", []string{"a\r", "b\rc\u2028d\u0085e\ve\f"})
	areRows(t, "\u00e4\n\xff\xfe\n\x00", []string{"\u00e4", "\xff\xfe", "\x00"})
}

// Every text of eight bytes or less of these signs.
func TestRowsOfAllShortTexts(t *testing.T) {
	grow("a\n #", 8, func(s string) { heldRows(t, []byte(s)) })
}

// So many bytes without a row's end, with ends behind, ahead and between, and in rows of a few bytes each.
func TestRowsOfTexts20000BytesLong(t *testing.T) {
	if api.MaxText != mostBytes {
		t.Errorf("MaxText is %d", api.MaxText)
	}
	for n := mostBytes - 2; n <= mostBytes+2; n++ {
		for _, s := range []string{
			strings.Repeat("a", n),
			strings.Repeat("a", n-1) + "\n",
			"\n" + strings.Repeat("a", n-1),
			strings.Repeat("a", n-2) + "\nb",
			strings.Repeat(strings.Repeat("a", 99)+"\n", 201)[:n],
			strings.Repeat("\u00e4", mostBytes)[:n],
			strings.Repeat(" ", n),
			strings.Repeat("\x00", n),
		} {
			heldRows(t, []byte(s))
			if n > mostBytes {
				tooBig(t, s)
			}
		}
	}
	areRows(t, strings.Repeat("a", mostBytes), []string{strings.Repeat("a", mostBytes)})
	areRows(t, strings.Repeat("a", mostBytes-1)+"\n", []string{strings.Repeat("a", mostBytes-1)})
	for _, n := range []int{mostBytes + 1, 2 * mostBytes, 1 << 16, 1<<16 + 5, 1 << 20, 1<<24 + 7} {
		tooBig(t, strings.Repeat("a", n))
		tooBig(t, strings.Repeat("\n", n))
	}
}

// So many rows, with and without a byte 10 behind the last one, of no byte, of one and of as many as may be.
func TestRowsOfTexts400RowsLong(t *testing.T) {
	if api.MaxLines != mostRows {
		t.Errorf("MaxLines is %d", api.MaxLines)
	}
	for _, row := range []string{"", "a", " ", "port sw1 p1 4 access 10", strings.Repeat("a", mostBytes/mostRows-1)} {
		for n := range 2*mostRows + 2 {
			behind := strings.Repeat(row+"\n", n)
			heldRows(t, []byte(behind))
			heldRows(t, []byte(behind+"b"))
			heldRows(t, []byte(behind+"b\n"))
		}
		rows := slices.Repeat([]string{row}, mostRows)
		areRows(t, strings.Repeat(row+"\n", mostRows), rows)
		tooBig(t, strings.Repeat(row+"\n", mostRows+1))
		rows[mostRows-1] = "b"
		areRows(t, strings.Repeat(row+"\n", mostRows-1)+"b", rows)
		tooBig(t, strings.Repeat(row+"\n", mostRows)+"b")
	}
	for _, n := range []int{mostRows + 1, mostRows + 256, 1<<10 + 3, mostBytes} {
		tooBig(t, strings.Repeat("\n", n))
		tooBig(t, strings.Repeat("\n", n-1)+"a")
	}
}

func TestRowsAreNewAndWhatIsHandedInIsLeft(t *testing.T) {
	const text = "ab\ncd\n\nef"
	room := []byte(text + "gh\nij\n")
	b := room[:len(text)]
	got, e := line.Rows(b)
	if want := []string{"ab", "cd", "", "ef"}; e != api.OK || !slices.Equal(got, want) {
		t.Fatalf("Rows(%q) with spare room: %q, %d", b, got, e)
	}
	if string(room) != text+"gh\nij\n" {
		t.Errorf("what is handed in is changed: %q", room)
	}
	again, _ := line.Rows(b)
	clear(room)
	if want := []string{"ab", "cd", "", "ef"}; !slices.Equal(got, want) {
		t.Errorf("rows change with the bytes that they were read of: %q", got)
	}
	_ = append(got, "x")
	clear(got[:cap(got)])
	if want := []string{"ab", "cd", "", "ef"}; !slices.Equal(again, want) {
		t.Errorf("two lists share their memory: %q", again)
	}
	for _, s := range []string{strings.Repeat("a", mostBytes+1), strings.Repeat("\n", mostRows+1)} {
		b := []byte(s)
		if line.Rows(b); string(b) != s {
			t.Error("what is refused is changed")
		}
	}
}

// P10.2

// saidWord tells by the chapter's words whether a text is a word.
func saidWord(s string) bool {
	const may = "!\"$%&'()*+,-./0123456789:;<=>?@ABCDEFGHIJKLMNOPQRSTUVWXYZ[\\]^_`abcdefghijklmnopqrstuvwxyz{|}~"
	for _, c := range []byte(s) {
		if strings.IndexByte(may, c) < 0 {
			return false
		}
	}
	return len(s) >= 1 && len(s) <= api.MaxWord
}

// saidWords are a row's words by the chapter's words.
func saidWords(row string) ([]string, api.Errno) {
	ahead, _, _ := strings.Cut(row, "#")
	var words []string
	for _, s := range strings.Split(strings.ReplaceAll(ahead, "\t", " "), " ") {
		if s != "" {
			words = append(words, s)
		}
	}
	if slices.ContainsFunc(words, func(s string) bool { return !saidWord(s) }) {
		return nil, api.ErrWord
	}
	return words, api.OK
}

// isWord asks that a text is a word, or is none.
func isWord(t *testing.T, s string, want bool) {
	t.Helper()
	if got := line.Word(s); got != want {
		t.Errorf("Word of %d bytes %q: %v", len(s), begin(s), got)
	}
}

// areWords asks that a row has just these words.
func areWords(t *testing.T, row string, want ...string) {
	t.Helper()
	if got, e := line.Words(row); e != api.OK || !slices.Equal(got, want) {
		t.Errorf("Words of %d bytes %q: %d, %q, %d; not %d, %q", len(row), begin(row), len(got), beginOf(got), e, len(want), beginOf(want))
	}
}

// noWords asks that a row is refused, with nothing beside the error.
func noWords(t *testing.T, row string) {
	t.Helper()
	if got, e := line.Words(row); e != api.ErrWord || len(got) > 0 {
		t.Errorf("Words of %d bytes %q: %d, %q, %d", len(row), begin(row), len(got), beginOf(got), e)
	}
}

// heldWords holds Words against the chapter's words.
func heldWords(t *testing.T, row string) {
	t.Helper()
	got, e := line.Words(row)
	want, not := saidWords(row)
	if e != not || !slices.Equal(got, want) {
		t.Fatalf("Words of %d bytes %q: %q, %d; not %q, %d", len(row), begin(row), beginOf(got), e, beginOf(want), not)
	}
}

func TestWordIsOneToMaxWordBytes(t *testing.T) {
	isWord(t, "", false)
	isWord(t, "a", true)
	isWord(t, full, true)
	isWord(t, over, false)
	for _, c := range []string{"a", "!", "~", "0", "/"} {
		for n := range 3*api.MaxWord + 300 {
			isWord(t, strings.Repeat(c, n), n >= 1 && n <= api.MaxWord)
		}
	}
	for _, n := range []int{256, 257, 256 + api.MaxWord, 1 << 16, 1<<16 + 1, 1 << 20} {
		isWord(t, strings.Repeat("a", n), n <= api.MaxWord)
	}
}

func TestWordHasBytesFrom33To126(t *testing.T) {
	for s, want := range map[string]bool{
		"a": true, "Z": true, "0": true, "!": true, "~": true, "\"": true, "$": true, "-": true, "sw1.p1": true, "10.0.0.1/24": true, "10,20": true,
		"00:00:00:00:0a:bc": true, "a\\b": true, "'": true, "a!b~c": true, "//": true, "\\n": true, "%00": true,
		" ": false, "\t": false, "#": false, "##": false, "a b": false, " a": false, "a ": false, "a\tb": false, "\ta": false, "a\t": false, "a#": false, "#a": false, "a#b": false,
		"\x00": false, "a\x00": false, "\x1f": false, "\x7f": false, "a\x7fb": false, "\x80": false, "\xff": false, "a\n": false, "a\r": false, "\n": false, "a\vb": false, "a\fb": false,
		"\u00e4": false, "a\u00e4b": false, "\u2028": false, "\uff21": false, "\u0661": false, "a\u00a0b": false, "\u3000": false, "\U0001f600": false, "a\xffb": false, "\xc3": false,
	} {
		isWord(t, s, want)
	}
}

// Each byte alone, at each place of words of each length, and at the ends of the longest one.
func TestWordHasNoOtherByte(t *testing.T) {
	for c := range 256 {
		may := c >= 33 && c <= 126 && c != '#'
		isWord(t, string([]byte{byte(c)}), may)
		for n := 1; n <= api.MaxWord; n++ {
			for at := range n {
				b := bytes.Repeat([]byte("w"), n)
				b[at] = byte(c)
				isWord(t, string(b), may)
			}
		}
	}
}

func TestWordOfAllShortTexts(t *testing.T) {
	grow("a!~# \t\x00\x7f\xff", 5, func(s string) {
		if got := line.Word(s); got != saidWord(s) {
			t.Fatalf("Word(%q): %v", s, got)
		}
	})
}

func TestWordsAreStretchesWithoutBlanks(t *testing.T) {
	areWords(t, "")
	areWords(t, "a", "a")
	areWords(t, "a b", "a", "b")
	areWords(t, "b a b", "b", "a", "b")
	areWords(t, " a\tb ", "a", "b")
	areWords(t, "a  b # c", "a", "b")
	areWords(t, "port sw1 p1 4 access 10", "port", "sw1", "p1", "4", "access", "10")
	areWords(t, "tenant red sw1.p1 sw2.p4", "tenant", "red", "sw1.p1", "sw2.p4")
	areWords(t, "irb sw1 10 v1 10.0.0.7/24", "irb", "sw1", "10", "v1", "10.0.0.7/24")
	areWords(t, "! ~ !~ ~!", "!", "~", "!~", "~!")
	areWords(t, "a\\tb a\\ b", "a\\tb", "a\\", "b")
	areWords(t, "'a b' \"c d\"", "'a", "b'", "\"c", "d\"")
	areWords(t, "a a a", "a", "a", "a")
}

// Bytes 32 and 9 ahead, between and behind: none but where they are needed, one, two of either, and many.
func TestWordsHaveBlanksAround(t *testing.T) {
	blanks := []string{" ", "\t", "  ", "\t\t", " \t", "\t ", " \t \t", strings.Repeat(" ", 1000), strings.Repeat("\t", 1000), strings.Repeat(" \t", 3000)}
	for _, between := range blanks {
		areWords(t, between)
		for _, ahead := range append(blanks, "") {
			for _, behind := range append(blanks, "") {
				areWords(t, ahead+"a"+behind, "a")
				areWords(t, ahead+"ab"+between+"c"+behind, "ab", "c")
				areWords(t, ahead+"a"+between+full+between+"b"+behind, "a", full, "b")
				areWords(t, ahead+"a"+behind+"#"+between+"b"+behind, "a")
				areWords(t, ahead+"#"+between+"b")
			}
		}
	}
}

func TestWordsStandAheadOfTheFirstRemark(t *testing.T) {
	areWords(t, "#")
	areWords(t, "# a")
	areWords(t, "#a b")
	areWords(t, " #")
	areWords(t, "\t#")
	areWords(t, "##")
	areWords(t, "# #")
	areWords(t, "a#", "a")
	areWords(t, "a #", "a")
	areWords(t, "a\t#", "a")
	areWords(t, "a b#", "a", "b")
	areWords(t, "a#b", "a")
	areWords(t, "a#b c", "a")
	areWords(t, "a b#c d", "a", "b")
	areWords(t, "a ##", "a")
	areWords(t, "a ## b", "a")
	areWords(t, "a # b # c", "a")
	areWords(t, "a#b#c", "a")
	areWords(t, "#a#")
	areWords(t, "a  b # c # d", "a", "b")
	areWords(t, full+"#"+full, full)
	areWords(t, full+"#"+over, full)
}

func TestWordsRefuseWhatIsNoWord(t *testing.T) {
	for _, bad := range []string{"\x00", "\x01", "\x1f", "\x7f", "\x80", "\xff", "\n", "\r", "\v", "\f", "\u00e4", "\u00a0", "\u2028", "\u3000", "a\rb", "\x7fa", "a\xff", over, over + over, strings.Repeat("a", 1<<20)} {
		for _, row := range []string{
			bad, " " + bad, bad + " ", "\t" + bad + "\t", "a " + bad, bad + " a", "a " + bad + " b", "a\t" + bad + "\tb", "a b " + bad, bad + " a b",
			bad + " " + bad, bad + "\t" + over, bad + "#", bad + "# a", bad + " #", "a " + bad + "#b", "a " + bad + " # b", "a " + bad + " b # c # " + bad,
			strings.Repeat("a ", 1000) + bad, bad + strings.Repeat(" a", 1000),
		} {
			noWords(t, row)
		}
		for _, row := range []string{"#" + bad, "# " + bad, "#a " + bad, "##" + bad, "# " + bad + " #", " \t# a " + bad + " b"} {
			areWords(t, row)
			areWords(t, "a"+row, "a")
			areWords(t, "a b "+row, "a", "b")
		}
	}
	noWords(t, "a \x00")
	noWords(t, "a\rb")
	noWords(t, "a\n")
	noWords(t, "a\nb")
}

// Each byte alone, within a word, ahead of one, behind one, between two, and behind a remark's begin.
func TestWordsOfEachByte(t *testing.T) {
	for c := range 256 {
		b := string([]byte{byte(c)})
		for _, row := range []string{b, b + b, "a" + b + "c", "a" + b, b + "a", "a " + b + " c", "a " + b + "c d", "a b" + b + " d", "a " + b + " #", full + b, b + full} {
			heldWords(t, row)
		}
		areWords(t, "a b#"+b, "a", "b")
		areWords(t, "a b #c"+b+"d", "a", "b")
		switch {
		case c == '#':
			areWords(t, "x a"+b+"c d", "x", "a")
		case c == ' ' || c == '\t':
			areWords(t, "x a"+b+"c d", "x", "a", "c", "d")
		case c < 33 || c > 126:
			noWords(t, "x a"+b+"c d")
		default:
			areWords(t, "x a"+b+"c d", "x", "a"+b+"c", "d")
		}
	}
}

// Stretches of each length around the longest one that is a word, first, between and last, and just ahead of a remark.
func TestWordsAreOneToMaxWordBytes(t *testing.T) {
	for n := 1; n <= 2*api.MaxWord+2; n++ {
		s := strings.Repeat("a", n)
		for _, row := range []string{s, " " + s, s + "\t", s + " b", "b " + s, "b " + s + " c", s + "#", s + "#b", s + " # b", "b " + s + "#" + s, s + " " + s} {
			heldWords(t, row)
			if n > api.MaxWord {
				noWords(t, row)
			}
		}
		areWords(t, "#"+s)
		areWords(t, "b #"+s, "b")
	}
}

// No count of words or of bytes is too great.
func TestWordsMayBeMany(t *testing.T) {
	for _, n := range []int{16, 17, 18, 19, 255, 256, 257, 400, 401, mostBytes / 2, mostBytes, 3 * mostBytes} {
		areWords(t, strings.Repeat("a ", n), slices.Repeat([]string{"a"}, n)...)
		areWords(t, strings.Repeat("\tbc", n)+"#d", slices.Repeat([]string{"bc"}, n)...)
		areWords(t, strings.Repeat("#", n))
		areWords(t, "a"+strings.Repeat(" ", n)+"b", "a", "b")
		areWords(t, "a#"+strings.Repeat("b", n), "a")
	}
}

// Every row of seven bytes or less of these signs, and of six of more signs.
func TestWordsOfAllShortRows(t *testing.T) {
	grow("ab \t#\x00", 7, func(s string) { heldWords(t, s) })
	grow("a~ \t#\x7f\n\xff", 6, func(s string) { heldWords(t, s) })
}

func TestWordsAreNew(t *testing.T) {
	row := strings.Join([]string{"port", "sw1", "p1", full, "# of red"}, " ")
	want := []string{"port", "sw1", "p1", full}
	got, e := line.Words(row)
	if e != api.OK || !slices.Equal(got, want) {
		t.Fatalf("Words(%q) = %q, %d", row, got, e)
	}
	for _, word := range got {
		if inside(word, row) {
			t.Errorf("the word %q lies in its row's memory", word)
		}
	}
	again, _ := line.Words(row)
	_ = append(got, "x")
	clear(got[:cap(got)])
	if !slices.Equal(again, want) {
		t.Errorf("two lists share their memory: %q", again)
	}
}

// P10.3

func TestJoinPutsOneByte32Between(t *testing.T) {
	for _, c := range []struct {
		words []string
		want  string
	}{
		{nil, ""}, {[]string{}, ""}, {[]string{"a"}, "a"}, {[]string{"a", "b"}, "a b"}, {[]string{"b", "a"}, "b a"}, {[]string{"a", "a", "a"}, "a a a"},
		{[]string{"port", "sw1", "p1", "4", "access", "10"}, "port sw1 p1 4 access 10"},
		{[]string{full, "a", full}, full + " a " + full},
		// What is no word is joined as it is.
		{[]string{""}, ""}, {[]string{"", ""}, " "}, {[]string{"", "a", ""}, " a "}, {[]string{"a", "", "b"}, "a  b"},
		{[]string{" "}, " "}, {[]string{"a b", "c"}, "a b c"}, {[]string{" a", "b "}, " a b "}, {[]string{"#", "a"}, "# a"}, {[]string{"a", "#b"}, "a #b"},
		{[]string{over, "\x00\n\t"}, over + " \x00\n\t"}, {[]string{"\u00e4", "\xff"}, "\u00e4 \xff"},
		{slices.Repeat([]string{"ab"}, mostBytes), strings.TrimSuffix(strings.Repeat("ab ", mostBytes), " ")},
	} {
		if got := line.Join(c.words); got != c.want {
			t.Errorf("Join of %d, %q: %q", len(c.words), beginOf(c.words), begin(got))
		}
	}
}

func TestJoinLeavesWhatIsHandedIn(t *testing.T) {
	list := []string{"ab", "cd", "ef", "gh"}
	for n := range len(list) + 1 {
		if got, want := line.Join(list[:n]), strings.TrimSuffix("ab cd ef gh "[:3*n], " "); got != want {
			t.Errorf("Join of the first %d of %q: %q", n, list, got)
		}
	}
	if !slices.Equal(list, []string{"ab", "cd", "ef", "gh"}) {
		t.Errorf("what is handed in is changed: %q", list)
	}
	word := strings.Repeat("ab", 5)
	if inside(line.Join([]string{word}), word) {
		t.Error("what is joined of one word lies in its memory")
	}
}

// P10.4

// lists are lists of words: of each byte that a word may have, of words of each length, and of one to many.
func lists() [][]string {
	l := [][]string{nil, {"a"}, {"a", "b"}, {"b", "a", "b"}, {full}, {full, full, full}, {"a", full, "~"}, {"!", "\"", "'", "\\"}, {"port", "sw1", "p1", "4", "access", "10"}}
	var each, long []string
	for c := 33; c <= 126; c++ {
		if c != '#' {
			each = append(each, string(rune(c)))
		}
	}
	for n := 1; n <= api.MaxWord; n++ {
		long = append(long, strings.Repeat("~", n))
	}
	l = append(l, each, long, slices.Concat(long, each, long), slices.Repeat(each, 50), []string{strings.Repeat(strings.Join(each, ""), api.MaxWord)[:api.MaxWord]})
	for n := range 30 {
		l = append(l, slices.Repeat([]string{"xy"}, n), each[n:2*n])
	}
	return l
}

// remarks are remarks, and what is none.
func remarks() []string {
	l := []string{"", "#", "# a", "#a", " #", " # a b", "\t# a", "##", "# # #", " \t #\x00\xff\n", "# " + over, " #" + over, "   ", "\t", " \t \t", "#" + strings.Repeat("a ", mostBytes)}
	for c := range 256 {
		l = append(l, "#"+string([]byte{byte(c)}), " # a"+string([]byte{byte(c)})+"b")
	}
	return l
}

func TestWordsThatAreJoinedAreThey(t *testing.T) {
	for _, words := range lists() {
		for _, remark := range remarks() {
			areWords(t, line.Join(words)+remark, words...)
		}
		for _, word := range words {
			isWord(t, word, true)
			areWords(t, word, word)
		}
	}
}

// What was told and joined is told, and joined, again alike.
func TestWordsThatAreToldAreJoinedAgain(t *testing.T) {
	for _, row := range []string{"", " ", "a", "  a\t", "a  b", "\ta \t b # c", "#", "a#b", " port\tsw1 p1  4 access 10#", full + "\t\t" + full} {
		words, e := line.Words(row)
		joined := line.Join(words)
		again, also := line.Words(joined)
		if e != api.OK || also != api.OK || !slices.Equal(words, again) || line.Join(again) != joined {
			t.Errorf("%q: %q, %d, joined %q, %q, %d", row, words, e, joined, again, also)
		}
	}
}

// texts are lists of rows, none of which has a byte 10.
func texts() [][]string {
	l := [][]string{nil, {""}, {"a"}, {"", ""}, {"a", ""}, {"", "a"}, {"a", "", "b"}, {" ", "\t", "#", "a # b", "\r", "\x00", "\xff"}}
	var each []string
	for c := range 256 {
		if c != '\n' {
			each = append(each, string([]byte{byte(c)}), "a"+string([]byte{byte(c)}))
		}
	}
	l = append(l, each[:mostRows], each[len(each)-mostRows:], []string{strings.Repeat("a", mostBytes-1)}, []string{strings.Repeat("a", mostBytes-2), ""})
	for n := range mostRows + 1 {
		l = append(l, slices.Repeat([]string{""}, n), slices.Repeat([]string{"vtep a 10.0.0.1"}, n))
	}
	return append(l, slices.Repeat([]string{strings.Repeat("b", mostBytes/mostRows-1)}, mostRows))
}

func TestRowsWithAByte10BehindEachAreToldAgain(t *testing.T) {
	for _, rows := range texts() {
		s := strings.Join(append(slices.Clone(rows), ""), "\n")
		areRows(t, s, rows)
		// Behind a last row that has something the byte 10 may be left out.
		if n := len(rows); n > 0 && rows[n-1] != "" {
			areRows(t, strings.TrimSuffix(s, "\n"), rows)
		}
	}
}

// Rows of words that are joined, each with a remark, are told as rows, and as words, again.
func TestRowsOfWordsAreToldAgain(t *testing.T) {
	var rows []string
	var all [][]string
	for _, words := range lists() {
		if row := line.Join(words) + " # of red\n"; len(row) < 300 {
			rows, all = append(rows, row), append(all, words)
		}
	}
	got, e := line.Rows([]byte(strings.Join(rows, "")))
	if e != api.OK || len(got) != len(all) {
		t.Fatalf("%d rows of %d, %d", len(got), len(all), e)
	}
	for i, row := range got {
		areWords(t, row, all[i]...)
	}
}
