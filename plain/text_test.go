package plain_test

import (
	"bytes"
	"slices"
	"strconv"
	"strings"
	"testing"

	"paling/api"
	"paling/plain"
	"paling/stmt"
)

const (
	mostBytes = 20000
	mostLines = 400
)

// linesOf are the lines of goods.
func linesOf(l []good) []api.Line {
	var lines []api.Line
	for _, g := range l {
		lines = append(lines, g.line)
	}
	return lines
}

// saidText is the text of lines that may be, by the chapter's words.
func saidText(l []api.Line) string {
	var s strings.Builder
	for _, one := range l {
		s.WriteString(said(one) + "\n")
	}
	return s.String()
}

// isText asks that lines are written as a text.
func isText(t *testing.T, l []api.Line, want string) {
	t.Helper()
	if b, e := plain.Text(l); e != api.OK || string(b) != want {
		t.Fatalf("Text of %d lines: %d bytes %.300q, %d; not %d bytes %.300q", len(l), len(b), b, e, len(want), want)
	}
}

// isRefused asks that lines are refused, and that no byte goes with it, behind the bytes' end neither.
func isRefused(t *testing.T, what string, l []api.Line, want api.Errno) {
	t.Helper()
	if b, e := plain.Text(l); e != want || cap(b) > 0 {
		t.Fatalf("%s: Text of %d lines: %d bytes, %d; not none, %d", what, len(l), len(b), e, want)
	}
}

// textHeld holds Text of lines that may be against the chapter's words.
func textHeld(t *testing.T, l []api.Line) {
	t.Helper()
	want := saidText(l)
	if len(l) > mostLines || len(want) > mostBytes {
		isRefused(t, "more than may be", l, api.ErrBig)
		return
	}
	isText(t, l, want)
}

// linked is a link's line that is so many bytes with its byte 10, from 13 to 57.
func linked(bytes int) api.Line {
	names := [4]string{"a", "a", "a", "a"}
	left := bytes - 13
	for i := range names {
		more := min(left, api.MaxName-1)
		names[i] += strings.Repeat("b", more)
		left -= more
	}
	return api.Line{Kind: api.LLink, Dev: names[0], Port: names[1], Peer: names[2], Far: names[3]}
}

// sized are lines that are so many bytes in all, as few lines as can be.
func sized(bytes int) []api.Line {
	var l []api.Line
	for ; bytes > 57+13; bytes -= 57 {
		l = append(l, linked(57))
	}
	if bytes > 57 {
		l = append(l, linked(13))
		bytes -= 13
	}
	return append(l, linked(bytes))
}

// P13.2

func TestTextOfNoLine(t *testing.T) {
	isText(t, nil, "")
	isText(t, []api.Line{}, "")
	// What lies behind the list's end is none of it.
	isText(t, []api.Line{wrongs[0].line, goods[0].line}[:0], "")
}

func TestTextOfEachKindOfLine(t *testing.T) {
	for i, g := range goods {
		isText(t, []api.Line{g.line}, g.row+"\n")
		for _, row := range rowsNumbers {
			isText(t, []api.Line{withRow(g.line, row)}, g.row+"\n")
		}
		for _, h := range goods {
			isText(t, []api.Line{g.line, h.line}, g.row+"\n"+h.row+"\n")
		}
		textHeld(t, linesOf(goods[:i]))
		textHeld(t, linesOf(goods[i:]))
	}
	// Lines stay in order, one that stands there twice too.
	all := linesOf(goods)
	textHeld(t, append(slices.Clone(all), all...))
	slices.Reverse(all)
	textHeld(t, all)
}

func TestTextOf400Lines(t *testing.T) {
	if api.MaxLines != mostLines {
		t.Errorf("MaxLines is %d", api.MaxLines)
	}
	short := api.Line{Kind: 5, Dev: "a", Addr: 1}
	for _, n := range []int{1, 2, 255, 256, mostLines - 1, mostLines} {
		isText(t, slices.Repeat([]api.Line{short}, n), strings.Repeat("vtep a 0.0.0.1\n", n))
	}
	for _, n := range []int{mostLines + 1, mostLines + 2, 511, 512, 2 * mostLines, 1 << 16, 1<<16 + 1} {
		isRefused(t, "more lines than may be", slices.Repeat([]api.Line{short}, n), api.ErrBig)
	}
	// Of each kind, those with long lists are more bytes than may be before they are more lines.
	for _, g := range goods {
		for n := mostLines - 2; n <= mostLines+2; n++ {
			textHeld(t, slices.Repeat([]api.Line{g.line}, n))
		}
		lines := append(slices.Repeat([]api.Line{short}, mostLines-1), g.line)
		textHeld(t, lines)
		textHeld(t, append(lines, g.line))
		textHeld(t, append([]api.Line{g.line}, lines...))
	}
}

func TestTextOf20000Bytes(t *testing.T) {
	if api.MaxText != mostBytes {
		t.Errorf("MaxText is %d", api.MaxText)
	}
	for n := mostBytes - 60; n <= mostBytes+60; n++ {
		lines := sized(n)
		if s := saidText(lines); len(s) != n || len(lines) > mostLines {
			t.Fatalf("%d lines of %d bytes, not %d", len(lines), len(s), n)
		}
		if n > mostBytes {
			isRefused(t, "more bytes than may be", lines, api.ErrBig)
		} else {
			isText(t, lines, saidText(lines))
		}
	}
	// Each kind of line is what goes beyond, in the first place and in the last one.
	for _, g := range goods {
		for n := mostBytes - 2; n <= mostBytes+2; n++ {
			rest := sized(n - len(g.row) - 1)
			textHeld(t, append(slices.Clone(rest), g.line))
			textHeld(t, append([]api.Line{g.line}, rest...))
		}
		for n := range 2*mostBytes/len(g.row) + 2 {
			if n > mostLines+2 || n*len(g.row) < mostBytes-1000 && n%16 > 0 {
				continue
			}
			textHeld(t, slices.Repeat([]api.Line{g.line}, n))
		}
	}
	// As many lines as may be that are as many bytes as may be, and one byte more.
	most := slices.Repeat([]api.Line{linked(50)}, mostLines)
	isText(t, most, strings.Repeat(said(most[0])+"\n", mostLines))
	for i := range most {
		more := slices.Clone(most)
		more[i] = linked(51)
		isRefused(t, "one byte more than may be", more, api.ErrBig)
		more[(i+7)%mostLines] = linked(49)
		textHeld(t, more)
	}
	// One line, and some, behind as many bytes as may be, and behind one less.
	for _, g := range goods {
		for _, n := range []int{mostBytes - 1, mostBytes} {
			textHeld(t, append(sized(n), g.line))
			textHeld(t, append(sized(n), g.line, linked(13), g.line))
		}
	}
	for _, n := range []int{mostBytes + 100, 1 << 15, 1 << 16, 1 << 17} {
		isRefused(t, "many more bytes than may be", sized(n), api.ErrBig)
	}
}

// A line that may not be is refused wherever it stands: among few lines, as many as may be, and too many; and beside too many bytes.
func TestTextRefusesLinesThatMayNotBe(t *testing.T) {
	short := api.Line{Kind: 5, Dev: "a", Addr: 1}
	for _, w := range wrongs {
		isRefused(t, w.why, []api.Line{w.line}, api.ErrArg)
		for _, n := range []int{2, 3, 4, 7, mostLines - 1, mostLines, mostLines + 1, mostLines + 2, 3 * mostLines} {
			lines := slices.Repeat([]api.Line{short}, n)
			for _, i := range []int{0, 1, n / 2, n - 2, n - 1, min(mostLines-1, n-1), min(mostLines, n-1)} {
				was := lines[i]
				lines[i] = w.line
				isRefused(t, w.why+", in place "+strconv.Itoa(i), lines, api.ErrArg)
				lines[i] = was
			}
			isRefused(t, w.why+", in all places", slices.Repeat([]api.Line{w.line}, n), api.ErrArg)
		}
		for _, n := range []int{mostBytes, mostBytes + 1, 2 * mostBytes, 4 * mostBytes} {
			lines := sized(n)
			for _, i := range []int{0, len(lines) / 2, len(lines)} {
				isRefused(t, w.why+", beside many bytes", slices.Insert(slices.Clone(lines), i, w.line), api.ErrArg)
			}
		}
	}
	many := slices.Repeat([]api.Line{short}, 1<<16)
	isRefused(t, "too many lines", many, api.ErrBig)
	many[len(many)-1] = wrongs[0].line
	isRefused(t, "the last of too many lines", many, api.ErrArg)
	for i := range goods {
		for j := range len(goods) {
			lines := linesOf(goods)
			lines[i], lines[j] = wrongs[i].line, wrongs[j].line
			isRefused(t, "two lines that may not be", lines, api.ErrArg)
		}
	}
}

// Rules 2 to 5: what was handed in, and what was answered.

// roomy are lines whose lists have numbers behind their ends.
func roomy(lines []api.Line) []api.Line {
	var room []api.Line
	for _, l := range lines {
		for _, list := range []*[]int{&l.Tagged, &l.Imports, &l.Exports} {
			*list = append(slices.Clone(*list), 5, 6)[:len(*list)]
		}
		l.Addrs = append(slices.Clone(l.Addrs), 5, 6)[:len(l.Addrs)]
		room = append(room, l)
	}
	return room
}

// rooms are copies of lines, in whose lists is what lies behind their ends, too.
func rooms(lines []api.Line) []api.Line {
	var all []api.Line
	for _, l := range lines {
		for _, list := range []*[]int{&l.Tagged, &l.Imports, &l.Exports} {
			*list = (*list)[:cap(*list)]
		}
		l.Addrs = l.Addrs[:cap(l.Addrs)]
		all = append(all, stmt.Copy(l))
	}
	return all
}

// agree tells whether two lists have the same lines, Rows too.
func agree(a, b []api.Line) bool { return slices.EqualFunc(a, b, stmt.Same) }

func TestWhatIsHandedInReadsAsItDid(t *testing.T) {
	lines := linesOf(goods)
	for _, w := range wrongs {
		lines = append(lines, w.line)
	}
	for i := range lines {
		lines[i].Row = 100 - i
	}
	lines = roomy(lines)
	was := rooms(lines)
	for n := range len(lines) + 1 {
		plain.Text(lines[:n])
		plain.Text(lines[n:])
		plain.Text(lines[n:n])
	}
	for _, l := range lines {
		plain.Words(l)
		plain.Line(l)
	}
	if !agree(rooms(lines), was) {
		t.Errorf("what was handed in is changed: %+v", lines)
	}
	many := append(slices.Repeat(lines[:20], 30), lines[0])
	wasMany := rooms(many)
	plain.Text(many[:600])
	plain.Text(sized(mostBytes + 1))
	if !agree(rooms(many), wasMany) {
		t.Error("what was handed in, more than may be, is changed")
	}
}

// What lies behind a list's length is not read.
func TestTextReadsNothingBehindEnds(t *testing.T) {
	lines := linesOf(goods)
	for n := range lines {
		cut := slices.Clone(lines)
		for i := n; i < len(cut); i++ {
			cut[i] = wrongs[i].line
		}
		textHeld(t, cut[:n])
	}
	for _, l := range roomy(lines) {
		isWritten(t, l, said(l))
	}
}

// What one answer is turned to changes no other one, and not what was handed in.
func TestTextIsNewMemory(t *testing.T) {
	for n := range len(goods) + 1 {
		lines := linesOf(goods[:n])
		want := saidText(lines)
		b, e := plain.Text(lines)
		again, f := plain.Text(lines)
		if e != api.OK || f != api.OK || string(b) != want {
			t.Fatalf("Text of %d lines: %q, %d, %d", n, b, e, f)
		}
		whole := append(b, "more"...)
		fill(whole[:cap(whole)])
		fill(b[:cap(b)])
		if string(again) != want || !agree(lines, linesOf(goods[:n])) {
			t.Errorf("two answers share their memory: %q", again)
		}
		isText(t, lines, want)
	}
}

// fill puts another byte to each.
func fill(b []byte) { copy(b, bytes.Repeat([]byte{'x'}, len(b))) }

// What is answered hangs on no call ahead of it, nor on what its lists have become since.
func TestNothingIsKeptFromCallToCall(t *testing.T) {
	some := [][]api.Line{nil, linesOf(goods), linesOf(goods[:1]), {wrongs[0].line}, slices.Repeat(linesOf(goods[:1]), 401), sized(mostBytes), sized(mostBytes + 1)}
	for _, ahead := range some {
		for _, l := range some {
			plain.Text(ahead)
			if b, e := plain.Text(l); e == api.OK {
				textHeld(t, l)
			} else if len(b) > 0 {
				t.Errorf("bytes beside the error %d", e)
			}
			for _, g := range goods {
				plain.Line(wrongs[1].line)
				isWritten(t, g.line, g.row)
			}
		}
	}
	l := api.Line{Kind: 2, Dev: "a", Port: "p", Cost: 1, Tagged: []int{10, 20}}
	isWritten(t, l, "port a p 1 trunk - 10,20")
	words := plain.Words(l)
	l.Tagged[1] = 30
	isWritten(t, l, "port a p 1 trunk - 10,30")
	if words[6] != "10,20" {
		t.Errorf("words change with the line: %q", words)
	}
}
