package plain_test

import (
	"slices"
	"strings"
	"testing"

	"paling/api"
	"paling/line"
	"paling/plain"
	"paling/stmt"
	"paling/text"
)

// P13.3

// readable tells whether each word of a line has no more bytes than a word of a text may have.
func readable(l api.Line) bool {
	return !slices.ContainsFunc(strings.Split(said(l), " "), func(word string) bool { return !line.Word(word) })
}

// counted are lines with the Rows 1, 2 and so on.
func counted(l []api.Line) []api.Line {
	l = slices.Clone(l)
	for i := range l {
		l[i].Row = i + 1
	}
	return l
}

// isReadAgain asks that lines are written as a text that is read as they are, with the Rows 1, 2 and so on, and written as that text.
func isReadAgain(t *testing.T, l []api.Line) {
	t.Helper()
	b, e := plain.Text(l)
	if e != api.OK {
		t.Fatalf("Text of %d lines: %d", len(l), e)
	}
	again, row, e := text.Read(b)
	// A text has no word longer than MaxWord, so that a longer list's row is written, but not read.
	if at := slices.IndexFunc(l, func(one api.Line) bool { return !readable(one) }); at >= 0 {
		if e != api.ErrWord || row != at+1 {
			t.Fatalf("%.300q is read as %d lines, %d, %d; not %d, %d", b, len(again), row, e, at+1, api.ErrWord)
		}
		return
	}
	if e != api.OK || row != 0 || !agree(again, counted(l)) || !text.Same(again, l) {
		t.Fatalf("%.300q is read as %+v, %d, %d; not %+v", b, again, row, e, counted(l))
	}
	isText(t, again, string(b))
}

func TestLinesOfEachKindAreReadAgain(t *testing.T) {
	isReadAgain(t, nil)
	short := 0
	for _, g := range goods {
		if readable(g.line) {
			short++
		}
		for _, row := range rowsNumbers {
			isReadAgain(t, []api.Line{withRow(g.line, row)})
			for _, h := range goods {
				isReadAgain(t, []api.Line{withRow(g.line, row), withRow(h.line, 3)})
			}
		}
	}
	if short < 30 {
		t.Errorf("%d lines may be read, which is too few to ask it", short)
	}
	var all []api.Line
	for _, g := range goods {
		if readable(g.line) {
			all = append(all, g.line)
		}
	}
	for n := range all {
		isReadAgain(t, all[:n])
		isReadAgain(t, all[n:])
	}
	slices.Reverse(all)
	isReadAgain(t, all)
}

// As many lines, and as many bytes, as may be.
func TestTextsAtTheirLimitsAreReadAgain(t *testing.T) {
	for _, g := range goods {
		lines := slices.Repeat([]api.Line{g.line}, min(mostLines, mostBytes/(len(g.row)+1)))
		isReadAgain(t, lines)
	}
	for n := mostBytes - 60; n <= mostBytes; n++ {
		isReadAgain(t, sized(n))
	}
	isReadAgain(t, slices.Repeat([]api.Line{linked(50)}, mostLines))
}

// Each line that may be with one field, or two, of another one.
func TestLinesWithFieldsTurnedAreReadAgain(t *testing.T) {
	for _, g := range goods {
		turned(g.line, func(l api.Line) {
			if stmt.Right(l) {
				isReadAgain(t, []api.Line{l})
			}
			turned(l, func(l api.Line) {
				if stmt.Right(l) {
					isReadAgain(t, []api.Line{l})
				}
			})
		})
	}
}

// isWrittenAs asks that a text is read and written as another one, which is read as the same lines, and written as it was.
func isWrittenAs(t *testing.T, s, want string) {
	t.Helper()
	lines, row, e := text.Read([]byte(s))
	if e != api.OK {
		t.Fatalf("%.300q: %d, %d", s, row, e)
	}
	isText(t, lines, want)
	again, row, e := text.Read([]byte(want))
	if e != api.OK || row != 0 || !text.Same(again, lines) || !agree(again, counted(lines)) {
		t.Fatalf("%.300q is read again as %+v, %d, %d; not %+v", want, again, row, e, lines)
	}
	isText(t, again, want)
}

func TestTextsAreWrittenAgain(t *testing.T) {
	for _, c := range [][2]string{
		{"", ""},
		{"\n", ""},
		{" \t\n# nothing\n\n#", ""},
		{"vtep a 10.0.0.1", "vtep a 10.0.0.1\n"},
		{"vtep a 10.0.0.1\n", "vtep a 10.0.0.1\n"},
		{"\n\n \tvtep\t\ta  10.0.0.1 # a's\n\n", "vtep a 10.0.0.1\n"},
		{"vtep a 10.0.0.1#\n#vtep b 10.0.0.2\nvtep c 10.0.0.3", "vtep a 10.0.0.1\nvtep c 10.0.0.3\n"},
		{"vtep b 10.0.0.1\nvtep a 10.0.0.1\nvtep b 10.0.0.1\n", "vtep b 10.0.0.1\nvtep a 10.0.0.1\nvtep b 10.0.0.1\n"},
		{"port sw1 p1 4 trunk 10 -\n", "port sw1 p1 4 access 10\n"},
		{"port a p 1 trunk 10 -\nport a p 1 access 10\n", "port a p 1 access 10\nport a p 1 access 10\n"},
		{"port a p 1 trunk - 10,20\n", "port a p 1 trunk - 10,20\n"},
		{"vrf a red - -# none\nvrf a red 1 -\nvrf a red - 1\n", "vrf a red - -\nvrf a red 1 -\nvrf a red - 1\n"},
		{"irb a 10 red 10.0.0.1/24\nstatic a 10 00:00:00:00:0a:bc p", "irb a 10 red 10.0.0.1/24\nstatic a 10 00:00:00:00:0a:bc p\n"},
	} {
		isWrittenAs(t, c[0], c[1])
	}
}

// Texts of each kind of row, with rows without words among them, blanks and remarks.
func TestTextsWithBlanksAndRemarksAreWrittenAgain(t *testing.T) {
	var rows []string
	for _, g := range goods {
		if readable(g.line) {
			rows = append(rows, g.row)
		}
	}
	for n := range len(rows) + 1 {
		some := rows[:n]
		want := strings.Join(append(slices.Clone(some), ""), "\n")
		isWrittenAs(t, want, want)
		for _, between := range []string{"\n", "\n\n", "\n \t\n#\n", " # r\n", "#\x00\n\n", "\t\n"} {
			s := strings.Join(some, between)
			isWrittenAs(t, s, want)
			isWrittenAs(t, s+between, want)
			isWrittenAs(t, "# r\n"+s, want)
			isWrittenAs(t, strings.ReplaceAll(" "+s, " ", " \t "), want)
		}
	}
}

// A text of as many bytes as may be is written as itself. Without a byte 10 at its end it is written as one byte more, which may not be.
func TestTextsOfAsManyBytesAsMayBe(t *testing.T) {
	most := saidText(sized(mostBytes))
	isWrittenAs(t, most, most)
	isWrittenAs(t, most[:mostBytes-1], most)
	more := saidText(sized(mostBytes + 1))
	lines, _, e := text.Read([]byte(more[:mostBytes]))
	if e != api.OK {
		t.Fatalf("Read: %d", e)
	}
	isRefused(t, "a text without a byte 10 at its end", lines, api.ErrBig)
}
