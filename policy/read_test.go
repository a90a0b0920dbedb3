package policy_test

import (
	"bytes"
	"fmt"
	"regexp"
	"slices"
	"strings"
	"testing"
	"unsafe"

	"paling/api"
	"paling/line"
	"paling/policy"
)

const (
	mostBytes   = 20000
	mostRows    = 400
	mostTenants = 10
	mostPorts   = 16
	mostName    = 12
)

// longest is a name of as many bytes as may be, and longer has one more.
var (
	longest = "abcdefghijk9"
	longer  = longest + "0"
)

// good is a row that is a tenant's, and the tenant, whose Row is that of a text that begins with it.
type good struct {
	row    string
	tenant api.Tenant
}

// goods are rows of tenants.
var goods = []good{
	{"tenant a a.b", api.Tenant{Row: 1, Name: "a", Devs: []string{"a"}, Ports: []string{"b"}}},
	{"tenant red sw1.p1 sw2.p4", api.Tenant{Row: 1, Name: "red", Devs: []string{"sw1", "sw2"}, Ports: []string{"p1", "p4"}}},
	{"tenant blue sw1.p2", api.Tenant{Row: 1, Name: "blue", Devs: []string{"sw1"}, Ports: []string{"p2"}}},
	{"tenant tenant tenant.tenant", api.Tenant{Row: 1, Name: "tenant", Devs: []string{"tenant"}, Ports: []string{"tenant"}}},
	// Nothing says here that ports are told once.
	{"tenant z9 b.a a.b b.a b.a", api.Tenant{Row: 1, Name: "z9", Devs: []string{"b", "a", "b", "b"}, Ports: []string{"a", "b", "a", "a"}}},
	{"tenant " + longest + " " + longest + ".p a." + longest, api.Tenant{Row: 1, Name: longest, Devs: []string{longest, "a"}, Ports: []string{"p", longest}}},
	{"tenant m" + ports(mostPorts), api.Tenant{Row: 1, Name: "m", Devs: slices.Repeat([]string{"sw"}, mostPorts), Ports: strings.Fields("p0 p1 p2 p3 p4 p5 p6 p7 p8 p9 p10 p11 p12 p13 p14 p15")}},
	{"tenant " + longest + strings.Repeat(" "+longest+"."+longest, mostPorts), api.Tenant{Row: 1, Name: longest, Devs: slices.Repeat([]string{longest}, mostPorts), Ports: slices.Repeat([]string{longest}, mostPorts)}},
}

// ports are so many ports' words, each with a blank ahead.
func ports(count int) string {
	var s strings.Builder
	for i := range count {
		fmt.Fprintf(&s, " sw.p%d", i)
	}
	return s.String()
}

// noNames are texts of which none is a name.
var noNames = []string{
	"", "A", "Z", "9", "0", "9a", "aB", "Ab", "aZ9", longer, longest + longest, "1" + longest[1:], "a-b", "a_b", "-", "a,b", "a/b", "a:b", "a`", "`a", "a{", "{a", "a@", "a[", "@", "a.b", ".", "a.", ".a", "a+", "~", "!", strings.Repeat("a", api.MaxWord),
}

// bad is a row that is refused.
type bad struct {
	row string
	e   api.Errno
}

// bads are rows that are refused.
var bads = slices.Concat(wordBads, lineBads, portBads(), []bad{
	{"tenant A a.b", api.ErrWord},
	{"tenant 9 a.b", api.ErrWord},
	{"tenant " + longer + " a.b", api.ErrWord},
	{"tenant a.b a.b", api.ErrWord},
	{"tenant a- a.b a.c", api.ErrWord},
	{"tenant A" + ports(mostPorts), api.ErrWord},
	{"tenant A ab", api.ErrWord},
})

// wordBads have stretches that are no words, which goes ahead of what else is wrong with their rows.
var wordBads = []bad{
	{"\x7f", api.ErrWord},
	{"tenant a a.b\x00", api.ErrWord},
	{"tenant a a.b\r", api.ErrWord},
	{"tenant \u00e4 a.b", api.ErrWord},
	{"tenant a a.b " + strings.Repeat("p", api.MaxWord+1), api.ErrWord},
	{"tenat \x01", api.ErrWord},
	{"\x80 a a.b", api.ErrWord},
	{"tenant \x80", api.ErrWord},
	{"tenant a\x80", api.ErrWord},
	{"what " + strings.Repeat("w", api.MaxWord+1), api.ErrWord},
	{"tenant a" + ports(mostPorts) + " \xff", api.ErrWord},
}

// lineBads have another first word, or too few words, or too many, which goes ahead of which words these are.
var lineBads = []bad{
	{"tenant", api.ErrLine},
	{"tenant a", api.ErrLine},
	{"tenant A", api.ErrLine},
	{"tenant a.b", api.ErrLine},
	{"a", api.ErrLine},
	{"a.b", api.ErrLine},
	{"a a.b", api.ErrLine},
	{"a tenant a.b", api.ErrLine},
	{"tenant # a a.b", api.ErrLine},
	{"tenant a # a.b", api.ErrLine},
	{"tenant a#a.b", api.ErrLine},
	{"tenat a a.b", api.ErrLine},
	{"tenan a a.b", api.ErrLine},
	{"tenants a a.b", api.ErrLine},
	{"Tenant a a.b", api.ErrLine},
	{"TENANT a a.b", api.ErrLine},
	{"port sw1 p1 4 access 10", api.ErrLine},
	{"tenat A a.b", api.ErrLine},
	{"tenat a ab", api.ErrLine},
	{"tenat" + ports(mostPorts+1), api.ErrLine},
	{"tenant a" + ports(mostPorts+1), api.ErrLine},
	{"tenant A" + ports(mostPorts+1), api.ErrLine},
	{"tenant a" + strings.Repeat(" ab", mostPorts+1), api.ErrLine},
	{"tenant a" + ports(mostPorts) + " .", api.ErrLine},
	{"tenant a" + ports(100), api.ErrLine},
}

// portBads are rows with a port's word that is none, in the first, a middle and the last place.
func portBads() []bad {
	var l []bad
	for _, word := range []string{"ab", ".", "..", "...", ".b", "a.", "a..b", "a.b.", ".a.b", "a.b.c", "a.b.a.b", "A.b", "a.B", "9.b", "a.9", "a,b", "a:b", "a.b,", longer + ".b", "a." + longer, "a-.b", "a.-"} {
		l = append(l, bad{"tenant a " + word, api.ErrWord}, bad{"tenant a a.b " + word + " a.b", api.ErrWord}, bad{"tenant a" + ports(mostPorts-1) + " " + word, api.ErrWord})
	}
	return l
}

// blanks are rows without words.
var blanks = []string{"", " ", "\t", " \t  \t ", "#", "# tenant a a.b", " \t# a remark", "#\x00 \xff#", "##", "\t#\t", "#what " + strings.Repeat("w", 300)}

// begin is the beginning of a text, to tell of it.
func begin(s string) string { return s[:min(len(s), 200)] }

// at is a tenant with another Row.
func at(row int, t api.Tenant) api.Tenant {
	t.Row = row
	return t
}

// equal tells by the fields whether two tenants are alike, Rows too.
func equal(a, b api.Tenant) bool {
	return a.Row == b.Row && a.Name == b.Name && slices.Equal(a.Devs, b.Devs) && slices.Equal(a.Ports, b.Ports)
}

// agree tells whether two lists have the same tenants, Rows too.
func agree(a, b []api.Tenant) bool { return slices.EqualFunc(a, b, equal) }

// isRead asks that a text has just these tenants, and tells of no row.
func isRead(t *testing.T, s string, want ...api.Tenant) {
	t.Helper()
	if got, row, e := policy.Read([]byte(s)); e != api.OK || row != 0 || !agree(got, want) {
		t.Fatalf("Read of %d bytes %q: %d, %.300v, %d, %d; not %d, %.300v", len(s), begin(s), len(got), got, row, e, len(want), want)
	}
}

// refuses asks that a text is refused at a row, and that no tenant goes with it, behind its list's end neither.
func refuses(t *testing.T, s string, at int, want api.Errno) {
	t.Helper()
	if got, row, e := policy.Read([]byte(s)); e != want || row != at || cap(got) > 0 {
		t.Fatalf("Read of %d bytes %q: %d, %.300v, %d, %d; not none, %d, %d", len(s), begin(s), len(got), got, row, e, at, want)
	}
}

// A name, and a port's word, by the chapters' words.
var (
	nameForm = regexp.MustCompile(`\A[a-z][a-z0-9]{0,11}\z`)
	portForm = regexp.MustCompile(`\A([a-z][a-z0-9]{0,11})\.([a-z][a-z0-9]{0,11})\z`)
)

// saidTenant reads a row's words by the chapter's words.
func saidTenant(words []string, row int) (api.Tenant, api.Errno) {
	if words[0] != "tenant" || len(words) < 3 || len(words) > 18 {
		return api.Tenant{}, api.ErrLine
	}
	if !nameForm.MatchString(words[1]) {
		return api.Tenant{}, api.ErrWord
	}
	one := api.Tenant{Row: row, Name: words[1]}
	for _, word := range words[2:] {
		parts := portForm.FindStringSubmatch(word)
		if parts == nil {
			return api.Tenant{}, api.ErrWord
		}
		one.Devs, one.Ports = append(one.Devs, parts[1]), append(one.Ports, parts[2])
	}
	return one, api.OK
}

// said reads a text by the chapter's words.
func said(b []byte) (tenants []api.Tenant, row int, e api.Errno) {
	rows := strings.Split(string(b), "\n")
	if rows[len(rows)-1] == "" {
		rows = rows[:len(rows)-1]
	}
	if len(b) > mostBytes || len(rows) > mostRows {
		return nil, 0, api.ErrBig
	}
	for i, r := range rows {
		ahead, _, _ := strings.Cut(r, "#")
		words := strings.FieldsFunc(ahead, func(c rune) bool { return c == ' ' || c == '\t' })
		if slices.ContainsFunc(words, func(s string) bool { return !line.Word(s) }) {
			return nil, i + 1, api.ErrWord
		}
		if len(words) == 0 {
			continue
		}
		one, e := saidTenant(words, i+1)
		if e != api.OK {
			return nil, i + 1, e
		}
		if tenants = append(tenants, one); len(tenants) > mostTenants {
			return nil, i + 1, api.ErrBig
		}
	}
	return tenants, 0, api.OK
}

// held holds Read against the chapter's words.
func held(t *testing.T, s string) {
	t.Helper()
	if want, at, not := said([]byte(s)); not == api.OK {
		isRead(t, s, want...)
	} else {
		refuses(t, s, at, not)
	}
}

// P14.1

func TestReadOfNoRow(t *testing.T) {
	isRead(t, "")
	if got, row, e := policy.Read(nil); e != api.OK || row != 0 || len(got) > 0 {
		t.Errorf("Read of nil: %+v, %d, %d", got, row, e)
	}
	for _, blank := range blanks {
		isRead(t, blank)
		isRead(t, blank+"\n")
		for _, other := range blanks {
			isRead(t, blank+"\n"+other)
		}
	}
}

// The example of the chapter.
func TestReadOfTwoPorts(t *testing.T) {
	got, row, e := policy.Read([]byte("tenant red sw1.p1 sw2.p4"))
	if e != api.OK || row != 0 || len(got) != 1 || got[0].Row != 1 || got[0].Name != "red" || !slices.Equal(got[0].Devs, []string{"sw1", "sw2"}) || !slices.Equal(got[0].Ports, []string{"p1", "p4"}) {
		t.Errorf("Read: %+v, %d, %d", got, row, e)
	}
}

func TestReadOfTenants(t *testing.T) {
	var rows []string
	var all []api.Tenant
	for i, g := range goods {
		isRead(t, g.row, g.tenant)
		isRead(t, g.row+"\n", g.tenant)
		for _, h := range goods {
			isRead(t, g.row+"\n"+h.row, g.tenant, at(2, h.tenant))
			isRead(t, g.row+"\n"+h.row+"\n", g.tenant, at(2, h.tenant))
		}
		rows, all = append(rows, g.row), append(all, at(i+1, g.tenant))
	}
	isRead(t, strings.Join(rows, "\n"), all...)
	isRead(t, strings.Join(rows, "\n")+"\n", all...)
	// Nothing but their rows says in which order tenants are, and nothing says here that one is told once.
	slices.Reverse(rows)
	slices.Reverse(all)
	for i := range all {
		all[i].Row = i + 1
	}
	isRead(t, strings.Join(rows, "\n"), all...)
}

// Each tenant's Row is the number of its row, whatever rows without words stand around it.
func TestReadTellsRows(t *testing.T) {
	for _, blank := range blanks {
		for i, g := range goods {
			h := goods[(i+1)%len(goods)]
			isRead(t, blank+"\n"+g.row, at(2, g.tenant))
			isRead(t, g.row+"\n"+blank, g.tenant)
			isRead(t, g.row+"\n"+blank+"\n"+h.row, g.tenant, at(3, h.tenant))
			for n := range 12 {
				isRead(t, strings.Repeat(blank+"\n", n)+g.row+"\n"+strings.Repeat(blank+"\n", n)+h.row+"\n"+blank, at(n+1, g.tenant), at(2*n+2, h.tenant))
			}
		}
	}
	for i := range mostRows {
		isRead(t, strings.Repeat("\n", i)+"tenant a a.b"+strings.Repeat("\n", mostRows-i), at(i+1, goods[0].tenant))
	}
}

// Blanks and remarks of all kinds within rows.
func TestReadOfRowsWithBlanksAndRemarks(t *testing.T) {
	for _, g := range goods {
		words := strings.Fields(g.row)
		for _, blank := range []string{" ", "\t", "  ", " \t ", "\t\t\t"} {
			for _, ahead := range []string{"", blank} {
				for _, behind := range []string{"", blank, "#", blank + "#", "# tenant a a.b", blank + "#\x00\xff" + blank, "##", "# a.b", "#.c", "#" + strings.Repeat("w", 300)} {
					isRead(t, ahead+strings.Join(words, blank)+behind, g.tenant)
				}
			}
		}
	}
}

// Three words to 18 are a row's, with one port to 16.
func TestReadCountsWords(t *testing.T) {
	for _, first := range []string{"tenant", "tenat", "a.b"} {
		for n := range 300 {
			row := first + strings.Repeat(" a", min(n, 1)) + ports(max(n-1, 0))
			held(t, row)
			if words := n + 1; first == "tenant" && words >= 3 && words <= 18 {
				if got, _, e := policy.Read([]byte(row)); e != api.OK || len(got) != 1 || len(got[0].Devs) != words-2 || len(got[0].Ports) != words-2 {
					t.Errorf("%d words: %+v, %d", words, got, e)
				}
			} else {
				refuses(t, row, 1, api.ErrLine)
			}
		}
	}
}

// Each byte of the first word turned, left out and written twice, and a byte ahead and behind.
func TestReadAsksForTheFirstWord(t *testing.T) {
	const word = "tenant"
	for i := range len(word) {
		refuses(t, word[:i]+word[i+1:]+" a a.b", 1, api.ErrLine)
		refuses(t, word[:i+1]+word[i:]+" a a.b", 1, api.ErrLine)
		for c := byte(33); c <= 126; c++ {
			if c == '#' {
				continue
			}
			for _, s := range []string{word[:i] + string(rune(c)) + word[i+1:], word[:i] + string(rune(c)) + word[i:], word + string(rune(c))} {
				if s != word {
					refuses(t, s+" a a.b", 1, api.ErrLine)
					// Ahead of what is wrong with the other words.
					refuses(t, s+" A ab", 1, api.ErrLine)
				}
			}
		}
	}
}

// rowsWith are rows with a name as the tenant's, and as the half of each of a few ports; of what they are there is one in each.
func rowsWith(name string) []string {
	return []string{
		"tenant " + name + " a.b", "tenant " + name + ports(mostPorts),
		"tenant a " + name + ".b", "tenant a a." + name,
		"tenant a " + name + ".b a.c", "tenant a a." + name + " a.c", "tenant a a.c " + name + ".b", "tenant a a.c a." + name,
		"tenant a" + ports(mostPorts-1) + " " + name + ".b", "tenant a" + ports(mostPorts-1) + " a." + name,
	}
}

// Names of each count of bytes.
func TestReadOfNamesOfEachLength(t *testing.T) {
	if api.MaxName != mostName || len(longest) != mostName || len(longer) != mostName+1 {
		t.Errorf("MaxName is %d, and the longest name here has %d", api.MaxName, len(longest))
	}
	for n := 1; n <= 3*mostName; n++ {
		for _, name := range []string{strings.Repeat("a", n), strings.Repeat("z9", n)[:n]} {
			for _, row := range rowsWith(name) {
				held(t, row)
				_, _, e := policy.Read([]byte(row))
				if (e == api.OK) != (n <= mostName) || n > mostName && e != api.ErrWord {
					t.Errorf("%q: %d", row, e)
				}
			}
		}
	}
}

// Each byte that a word may have, alone, and first, amid and last in names.
func TestReadOfNamesOfEachByte(t *testing.T) {
	for c := byte(33); c <= 126; c++ {
		if c == '#' {
			continue
		}
		letter := c >= 'a' && c <= 'z'
		more := letter || c >= '0' && c <= '9'
		b := string(rune(c))
		for name, may := range map[string]bool{b: letter, b + "a": letter, b + longest[1:]: letter, "a" + b: more, "a" + b + "a": more, longest[:11] + b: more} {
			// A dot more in a port's word is another matter, but it is no name either way.
			for _, row := range rowsWith(name) {
				if may {
					held(t, row)
				} else {
					refuses(t, row, 1, api.ErrWord)
				}
			}
		}
	}
	for _, name := range noNames {
		if name == "" {
			continue
		}
		for _, row := range rowsWith(name) {
			refuses(t, row, 1, api.ErrWord)
		}
	}
}

// Ports' words without a dot, with one and with more, and with nothing ahead of it, behind it and between.
func TestReadCutsPortsAtTheirDot(t *testing.T) {
	const signs = "ab9.A-"
	level := []string{""}
	for range 6 {
		var next []string
		for _, word := range level {
			for _, c := range signs {
				next = append(next, word+string(c))
			}
		}
		for _, word := range next {
			held(t, "tenant a "+word)
		}
		level = next
	}
	for _, word := range []string{"ab", ".", "..", ".b", "a.", "a..b", "a.b.", ".a.b", "a.b.c", "a.b.c.d", longest, longest + ".", "." + longest, longest + "." + longest + ".", longest + "..a"} {
		for n := 1; n <= mostPorts; n++ {
			for i := range n {
				all := slices.Repeat([]string{"sw1.p1"}, n)
				all[i] = word
				refuses(t, "tenant a "+strings.Join(all, " "), 1, api.ErrWord)
			}
		}
	}
	for n := 1; n <= mostName; n++ {
		for m := 1; m <= mostName; m++ {
			isRead(t, "tenant a "+longest[:n]+"."+longest[:m], api.Tenant{Row: 1, Name: "a", Devs: []string{longest[:n]}, Ports: []string{longest[:m]}})
		}
	}
}

// Of what is wrong in one row what is no word goes ahead, then the first word and the count, then the names.
func TestReadTellsTheFirstThatIsWrongInARow(t *testing.T) {
	for _, c := range []bad{
		{"tenat \x00 ab", api.ErrWord},
		{"tenat a a.b \x00", api.ErrWord},
		{"\x00", api.ErrWord},
		{"tenant \x00", api.ErrWord},
		{"tenant a" + ports(mostPorts) + " \x00", api.ErrWord},
		{"tenat A ab", api.ErrLine},
		{"tenat A", api.ErrLine},
		{"tenant A", api.ErrLine},
		{"tenant .", api.ErrLine},
		{"tenant A" + strings.Repeat(" ab", mostPorts+1), api.ErrLine},
		{"tenant A" + strings.Repeat(" ab", mostPorts), api.ErrWord},
		{"tenant A ab", api.ErrWord},
	} {
		refuses(t, c.row, 1, c.e)
		refuses(t, "\n"+c.row+"\n", 2, c.e)
	}
}

// Each wrong row at each place among good ones, and among rows without words.
func TestReadTellsTheRowThatIsRefused(t *testing.T) {
	for _, b := range bads {
		refuses(t, b.row, 1, b.e)
		refuses(t, b.row+"\n", 1, b.e)
		for n := 2; n <= mostTenants; n++ {
			for i := range n {
				for _, row := range append([]string{goods[0].row, goods[1].row, goods[7].row}, blanks...) {
					rows := slices.Repeat([]string{row}, n)
					rows[i] = b.row
					refuses(t, strings.Join(rows, "\n"), i+1, b.e)
					refuses(t, strings.Join(rows, "\n")+"\n", i+1, b.e)
				}
			}
		}
		for _, i := range []int{0, 1, mostRows / 2, 254, 255, 256, 257, mostRows - 2, mostRows - 1} {
			refuses(t, strings.Repeat("\n", i)+b.row+strings.Repeat("\n", mostRows-i), i+1, b.e)
		}
	}
}

// Each two wrong rows at each two places: what stands behind the first one changes nothing.
func TestReadTellsTheFirstWrongRow(t *testing.T) {
	const n = 4
	for _, first := range bads {
		for _, then := range bads {
			for i := range n {
				for j := i + 1; j < n; j++ {
					rows := slices.Repeat([]string{"tenant red sw1.p1"}, n)
					rows[i], rows[j] = first.row, then.row
					refuses(t, strings.Join(rows, "\n"), i+1, first.e)
				}
			}
		}
		refuses(t, "\n"+first.row+"\n"+strings.Repeat(goods[0].row+"\n", mostTenants+1), 2, first.e)
	}
}

// Ten tenants may be; the eleventh is told, but for a row that is no tenant's, which is told as what it is.
func TestReadOfTenTenantsAndTheEleventh(t *testing.T) {
	if api.MaxTenants != mostTenants {
		t.Errorf("MaxTenants is %d", api.MaxTenants)
	}
	for _, g := range goods {
		var all []api.Tenant
		for i := range mostTenants {
			all = append(all, at(i+1, g.tenant))
			isRead(t, strings.Repeat(g.row+"\n", i+1), all...)
		}
		ten := strings.Repeat(g.row+"\n", mostTenants)
		isRead(t, ten[:len(ten)-1], all...)
		isRead(t, ten+"\n# r\n \t\n", all...)
		for _, h := range goods {
			refuses(t, ten+h.row, 11, api.ErrBig)
			refuses(t, ten+h.row+"\n", 11, api.ErrBig)
		}
		for n := mostTenants + 1; n <= 45; n++ {
			refuses(t, strings.Repeat(g.row+"\n", n), 11, api.ErrBig)
		}
		for _, b := range bads {
			refuses(t, ten+b.row, 11, b.e)
			// What stands behind the eleventh tenant changes nothing, and what stands ahead of it is told.
			refuses(t, ten+g.row+"\n"+b.row, 11, api.ErrBig)
			refuses(t, ten+b.row+"\n"+g.row, 11, b.e)
			refuses(t, ten+"\n"+b.row+"\n"+g.row, 12, b.e)
		}
		for _, blank := range blanks {
			// Rows without words are no tenants.
			refuses(t, ten+blank+"\n"+g.row, 12, api.ErrBig)
			refuses(t, strings.Repeat(blank+"\n", 7)+ten+g.row, 18, api.ErrBig)
			refuses(t, strings.Repeat(g.row+"\n"+blank+"\n", mostTenants+1), 21, api.ErrBig)
		}
	}
	for n := range mostRows + 2 {
		held(t, strings.Repeat("tenant a a.b\n", n))
		held(t, strings.Repeat("\n", n)+strings.Repeat("tenant a a.b\n", 11))
	}
}

// Texts of so many bytes, whose tenants stand ahead of, between and behind what fills them up.
func TestReadOfTexts20000BytesLong(t *testing.T) {
	if api.MaxText != mostBytes {
		t.Errorf("MaxText is %d", api.MaxText)
	}
	for _, g := range goods {
		for n := mostBytes - 2; n <= mostBytes+2; n++ {
			left := n - len(g.row)
			for _, s := range []string{
				g.row + "#" + strings.Repeat("r", left-1),
				g.row + strings.Repeat(" ", left),
				g.row + strings.Repeat("\t", left-1) + "\n",
				strings.Repeat(" ", left) + g.row,
				"#" + strings.Repeat("r", left-2) + "\n" + g.row,
			} {
				if len(s) != n {
					t.Fatalf("a text of %d bytes, not %d", len(s), n)
				}
				held(t, s)
				if n > mostBytes {
					refuses(t, s, 0, api.ErrBig)
				} else {
					isRead(t, s, at(1+strings.Count(s[:left], "\n"), g.tenant))
				}
			}
		}
	}
	for _, n := range []int{mostBytes + 1, 2 * mostBytes, 1 << 16, 1<<16 + 5, 1 << 20} {
		refuses(t, strings.Repeat("#", n), 0, api.ErrBig)
		refuses(t, strings.Repeat("a", n), 0, api.ErrBig)
		refuses(t, strings.Repeat("\n", n), 0, api.ErrBig)
	}
}

// As many rows as may be, with tenants in the first ones and in the last ones.
func TestReadOfTexts400RowsLong(t *testing.T) {
	if api.MaxLines != mostRows {
		t.Errorf("MaxLines is %d", api.MaxLines)
	}
	for _, g := range goods {
		isRead(t, strings.Repeat("\n", mostRows-1)+g.row, at(mostRows, g.tenant))
		isRead(t, strings.Repeat("\n", mostRows-1)+g.row+"\n", at(mostRows, g.tenant))
		isRead(t, g.row+strings.Repeat("\n", mostRows), g.tenant)
		refuses(t, strings.Repeat("\n", mostRows)+g.row, 0, api.ErrBig)
		refuses(t, g.row+strings.Repeat("\n", mostRows+1), 0, api.ErrBig)
		refuses(t, g.row+strings.Repeat("\n", mostRows)+"#", 0, api.ErrBig)
	}
	isRead(t, strings.Repeat("\n", mostRows))
	refuses(t, strings.Repeat("\n", mostRows+1), 0, api.ErrBig)
}

// What is wrong with the whole text goes ahead of what is wrong with any row of it, and has no row.
func TestReadRefusesTooBigTextsAheadOfTheirRows(t *testing.T) {
	eleven := strings.Repeat("tenant a a.b\n", mostTenants+1)
	refuses(t, eleven+strings.Repeat("\n", mostRows), 0, api.ErrBig)
	refuses(t, eleven+"#"+strings.Repeat("r", mostBytes), 0, api.ErrBig)
	refuses(t, strings.Repeat("tenant a a.b\n", mostRows+1), 0, api.ErrBig)
	refuses(t, strings.Repeat("tenant a a.b\n", mostRows), 11, api.ErrBig)
	for _, b := range bads {
		for _, n := range []int{0, 1, mostRows / 2, mostRows - 1, mostRows} {
			refuses(t, strings.Repeat("\n", n)+b.row+strings.Repeat("\n", mostRows+1-n)+"#", 0, api.ErrBig)
		}
		fill := "#" + strings.Repeat("r", mostBytes)
		refuses(t, b.row+"\n"+fill, 0, api.ErrBig)
		refuses(t, fill+"\n"+b.row, 0, api.ErrBig)
	}
}

// Texts of all rows of a few, in each order, with and without a byte 10 behind the last one.
func TestReadOfAllTextsOfSomeRows(t *testing.T) {
	nine := strings.Repeat("tenant c c.c\n", mostTenants-1)
	pool := []string{"", "# r", "tenant a a.b", " tenant red sw1.p1 sw2.p4 # r", "tenat a a.b", "tenant a", "tenant A a.b", "tenant a ab", "\x01"}
	level := []string{""}
	for range 4 {
		var next []string
		for _, s := range level {
			for _, row := range pool {
				held(t, s+row)
				held(t, s+row+"\n")
				held(t, nine+s+row)
				next = append(next, s+row+"\n")
			}
		}
		level = next
	}
}

// Texts of all short bytes of some kinds around a tenant.
func TestReadOfAllShortTexts(t *testing.T) {
	signs := []string{"\n", " ", "#", "a", ".", "tenant a", "\x00"}
	level := []string{""}
	for range 6 {
		var next []string
		for _, s := range level {
			held(t, s)
			for _, sign := range signs {
				next = append(next, s+sign)
			}
		}
		level = next
	}
}

// Each byte of a text put to each value, left out, and written twice.
func TestReadOfEachByteTurned(t *testing.T) {
	var rows []string
	for _, g := range goods {
		rows = append(rows, g.row)
	}
	for _, s := range []string{strings.Join(rows[:6], "\n"), "# r\n\n tenant red\tsw1.p1 sw2.p4 # r\n\t\ntenant blue sw1.p2\n"} {
		held(t, s)
		for i := range len(s) {
			held(t, s[:i]+s[i+1:])
			held(t, s[:i+1]+s[i:])
			held(t, s[:i]+"\n"+s[i:])
			held(t, s[:i])
			held(t, s[i:])
			for b := range 256 {
				held(t, s[:i]+string([]byte{byte(b)})+s[i+1:])
			}
		}
	}
}

// Rules 2 to 5: what was handed in, and what was answered.

// inside tells whether a piece lies in the memory of bytes.
func inside(piece string, b []byte) bool {
	at, from := uintptr(unsafe.Pointer(unsafe.StringData(piece))), uintptr(unsafe.Pointer(unsafe.SliceData(b)))
	return at >= from && at < from+uintptr(cap(b))
}

// What was handed in reads afterwards as it did, spare room too, and none of it is kept.
func TestReadLeavesAndKeepsNothingOfItsBytes(t *testing.T) {
	var rows []string
	for _, g := range goods {
		rows = append(rows, " "+g.row+" # r")
	}
	s := strings.Join(rows, "\n")
	room := []byte(s + "\ntenant b b.c\n")
	was := bytes.Clone(room)
	got, row, e := policy.Read(room[:len(s)])
	if e != api.OK || row != 0 || len(got) != len(goods) {
		t.Fatalf("Read with spare room: %+v, %d, %d", got, row, e)
	}
	if !bytes.Equal(room, was) {
		t.Errorf("what is handed in is changed: %q", room)
	}
	for _, one := range got {
		for _, name := range slices.Concat([]string{one.Name}, one.Devs, one.Ports) {
			if inside(name, room) {
				t.Errorf("%+v: the name %s lies in the text's memory", one, name)
			}
		}
	}
	clear(room)
	for i, one := range got {
		if !equal(one, at(i+1, goods[i].tenant)) {
			t.Errorf("tenants change with the bytes that they were read of: %+v", one)
		}
	}
	for _, b := range bads {
		room := []byte("tenant a a.b\n" + b.row + "\ntenant b a.c")
		was := bytes.Clone(room)
		if policy.Read(room[:len(room)-5]); !bytes.Equal(room, was) {
			t.Errorf("what is refused is changed: %q", room)
		}
	}
	for _, big := range []string{strings.Repeat("a", mostBytes+1), strings.Repeat("\n", mostRows+1), strings.Repeat("tenant a a.b\n", 11)} {
		room := []byte(big)
		if policy.Read(room); string(room) != big {
			t.Error("what is too big is changed")
		}
	}
}

// No two lists of one answer, nor of two, share their memory, spare room too.
func TestReadHandsOutListsOfTheirOwn(t *testing.T) {
	var rows []string
	for _, g := range goods {
		rows = append(rows, g.row)
	}
	s := []byte(strings.Join(rows, "\n"))
	want, _, _ := policy.Read(s)
	for i := range want {
		for _, pick := range []func(*api.Tenant) *[]string{func(t *api.Tenant) *[]string { return &t.Devs }, func(t *api.Tenant) *[]string { return &t.Ports }} {
			got, _, e := policy.Read(s)
			if e != api.OK || !agree(got, want) {
				t.Fatalf("Read: %+v, %d", got, e)
			}
			list := pick(&got[i])
			was := slices.Clone(*list)
			spoil(append(*list, "x", "y"))
			spoil((*list)[:cap(*list)])
			*list = was
			if !agree(got, want) {
				t.Errorf("a list of tenant %d shares another one's memory: %+v", i, got)
			}
		}
	}
	got, _, _ := policy.Read(s)
	for i := range got {
		spoil(got[i].Devs[:cap(got[i].Devs)])
		spoil(got[i].Ports[:cap(got[i].Ports)])
	}
	clear(got[:cap(got)])
	for i, one := range want {
		if !equal(one, at(i+1, goods[i].tenant)) {
			t.Errorf("two answers share their memory: %+v", one)
		}
	}
}

// Both names of a port, which go to two lists, lie in memory of their own: they aren't the two ends of one word.
func TestReadHandsOutNamesOfTheirOwn(t *testing.T) {
	word := longest + "." + longest
	got, _, e := policy.Read([]byte("tenant a" + strings.Repeat(" "+word, mostPorts)))
	if e != api.OK || len(got) != 1 || len(got[0].Devs) != mostPorts {
		t.Fatalf("Read: %+v, %d", got, e)
	}
	for i, dev := range got[0].Devs {
		from, to := uintptr(unsafe.Pointer(unsafe.StringData(dev))), uintptr(unsafe.Pointer(unsafe.StringData(got[0].Ports[i])))
		if to-from == uintptr(len(longest)+1) {
			t.Errorf("both names of port %d lie in one word's memory", i)
		}
	}
}

// spoil puts another text to each of a list.
func spoil(l []string) {
	for i := range l {
		l[i] = "spoilt"
	}
}

// What is answered hangs on no call ahead of it.
func TestReadKeepsNothingFromCallToCall(t *testing.T) {
	texts := []string{"", "tenant a a.b", "\n\nwhat", "tenant a a.b\ntenant a", strings.Repeat("\n", mostRows+1), "\x01", strings.Repeat("tenant a a.b\n", 10), strings.Repeat("tenant a a.b\n", 11)}
	for _, ahead := range texts {
		for _, s := range texts {
			policy.Read([]byte(ahead))
			held(t, s)
			policy.Text([]api.Tenant{goods[0].tenant})
			held(t, s)
		}
	}
}
