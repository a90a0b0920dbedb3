package links_test

import (
	"fmt"
	"testing"

	"paling/api"
	"paling/links"
	"paling/names"
)

// P17.1

// makes asks that a line is put as a link of these ports, behind all others, that both have it as theirs, and that nothing else changes.
func makes(t *testing.T, what string, n api.Net, l api.Line, a, b int) api.Net {
	t.Helper()
	want := clone(n, 0)
	at := len(n.Links)
	want.Ports[a].Link, want.Ports[b].Link = at, at
	want.Links = append(want.Links, api.Link{Row: l.Row, A: a, B: b})
	return isPut(t, what, n, l, want)
}

// Each field of the link, and what the ports have, of a net written out.
func TestLinkIsPut(t *testing.T) {
	n := api.Net{
		Devices: []api.Device{{Name: "a"}, {Name: "b"}},
		Ports:   []api.Port{{Name: "p", Native: 10, Link: -1}, {Name: "q", Native: 10, Link: -1}, {Dev: 1, Name: "p", Native: 10, Link: -1}, {Dev: 1, Name: "q", Native: 10, Link: -1}},
		Domains: []api.Domain{{Vlan: 10, Irb: -1}, {Dev: 1, Vlan: 10, Irb: -1}},
	}
	got, e := links.Add(n, api.Line{Row: 7, Kind: 3, Dev: "a", Port: "q", Peer: "b", Far: "p"})
	if e != ok || len(got.Links) != 1 || got.Links[0] != (api.Link{Row: 7, A: 1, B: 2}) {
		t.Fatalf("%+v, %d", got.Links, e)
	}
	for i, want := range []int{-1, 0, 0, -1} {
		if got.Ports[i].Link != want {
			t.Errorf("the port %d has the link %d", i, got.Ports[i].Link)
		}
	}
	got, e = links.Add(got, api.Line{Row: 3, Kind: 3, Dev: "b", Port: "q", Peer: "a", Far: "p"})
	if e != ok || len(got.Links) != 2 || got.Links[0] != (api.Link{Row: 7, A: 1, B: 2}) || got.Links[1] != (api.Link{Row: 3, A: 3, B: 0}) {
		t.Fatalf("%+v, %d", got.Links, e)
	}
	for i, want := range []int{1, 0, 0, 1} {
		if got.Ports[i].Link != want {
			t.Errorf("the port %d has the link %d, not %d", i, got.Ports[i].Link, want)
		}
	}
}

// Each two ports without a link of unlike devices, either way round: the first one that the line names is A.
func TestLinkOfEachTwoPorts(t *testing.T) {
	for what, n := range map[string]api.Net{"the whole": whole(), "the net of peers": met(), "no link": ladder(0, 40), "three links": ladder(3, 11)} {
		count := 0
		for a := range n.Ports {
			for b := range n.Ports {
				if n.Ports[a].Dev != n.Ports[b].Dev && n.Ports[a].Link == -1 && n.Ports[b].Link == -1 {
					makes(t, what, n, between(n, a, b), a, b)
					count++
				}
			}
		}
		if count < 6 {
			t.Errorf("%s: %d links", what, count)
		}
	}
	n := whole()
	makes(t, "a.p1 to c.p2", n, link("a", "p1", "c", "p2"), 0, 5)
	makes(t, "c.p2 to a.p1", n, link("c", "p2", "a", "p1"), 5, 0)
	makes(t, "d.p1 to a.p1", n, link("d", "p1", "a", "p1"), 6, 0)
}

// The row is the line's, whatever it is.
func TestLinkHasTheLinesRow(t *testing.T) {
	for _, at := range []int{least, -1, 0, 1, 12, 90, 400, 401, 1 << 32, most} {
		l := link("a", "p1", "d", "p1")
		l.Row = at
		got := makes(t, "a row", whole(), l, 0, 6)
		if want := (api.Link{Row: at, A: 0, B: 6}); got.Links[2] != want {
			t.Errorf("%+v, not %+v", got.Links[2], want)
		}
	}
}

// Empty lists of a line are as good as none.
func TestLinkOfEmptyLists(t *testing.T) {
	l := link("a", "p1", "d", "p1")
	l.Tagged, l.Imports, l.Exports, l.Addrs = []int{}, []int{}, []int{}, []uint32{}
	makes(t, "empty lists", whole(), l, 0, 6)
}

// The ports of one link may have any VLANs: alike, unlike, or none in common.
func TestLinkAsksNothingOfVlans(t *testing.T) {
	for i, f := range allForms() {
		n := joined(f.ends)
		n.Links = nil
		n.Ports[0].Link, n.Ports[1].Link = -1, -1
		makes(t, fmt.Sprint("form ", i), n, link("a", "p0", "b", "p0"), 0, 1)
		makes(t, fmt.Sprint("form ", i, ", the other way round"), n, link("b", "p0", "a", "p0"), 1, 0)
	}
}

// No device Dev, no port of it, no device Peer, no port Far of that, each with all else right; and a port of that name on other devices.
func TestLinkOfNoPort(t *testing.T) {
	n := whole()
	makes(t, "all there", n, link("a", "p1", "d", "p1"), 0, 6)
	for what, l := range map[string]api.Line{
		"no Dev":          link("z", "p1", "d", "p1"),
		"no Port":         link("a", "p9", "d", "p1"),
		"no Peer":         link("a", "p1", "z", "p1"),
		"no Far":          link("a", "p1", "d", "p9"),
		"no one":          link("z", "p9", "z", "p9"),
		"d's p2":          link("d", "p2", "a", "p1"),
		"p2 of d":         link("a", "p1", "d", "p2"),
		"a VRF as a Dev":  link("red", "p1", "d", "p1"),
		"a VRF as a Port": link("a", "red", "d", "p1"),
		"a port as a Dev": link("p1", "p1", "d", "p1"),
		"a device's Port": link("a", "a", "d", "p1"),
		"a VRF as a Peer": link("a", "p1", "blue", "p1"),
		"a VRF as a Far":  link("a", "p1", "d", "blue"),
		"a port as Peer":  link("a", "p1", "p1", "p1"),
		"a device's Far":  link("a", "p1", "d", "d"),
	} {
		isRefused(t, what, n, l, name)
	}
	// A port of that name on another device, on the one side and on the other one.
	n = ladder(0, 8)
	for i, p := range n.Ports {
		for d, device := range n.Devices {
			a, b := between(n, i, (i+1)%8), between(n, (i+1)%8, i)
			a.Dev, b.Peer = device.Name, device.Name
			if d == p.Dev {
				makes(t, p.Name, n, a, i, (i+1)%8)
				makes(t, p.Name, n, b, (i+1)%8, i)
			} else {
				isRefused(t, p.Name+" of another device", n, a, name)
				isRefused(t, p.Name+" of another device on the other side", n, b, name)
			}
		}
	}
	for of, n := range goods() {
		isRefused(t, of, n, link("z", "p1", "zz", "p1"), name)
	}
}

// Names that are alike but for their case, their end or their beginning, in each of the line's four places.
func TestLinkOfNamesThatAreAlike(t *testing.T) {
	for _, there := range []string{"SW1", "Sw1", "sw", "sw11", "sw10", "sw3", "w1", "sw1 ", " sw1", "sw1\x00", "xsw1", "sw01", ""} {
		n := row(2)
		n.Devices[0].Name, n.Devices[1].Name = "sw1", "sw2"
		n.Ports = []api.Port{{Native: 1, Link: -1, Name: "sw1"}, {Dev: 1, Native: 1, Link: -1, Name: "sw1"}}
		n.Domains = []api.Domain{{Vlan: 1, Irb: -1}, {Dev: 1, Vlan: 1, Irb: -1}}
		makes(t, "all there", n, link("sw1", "sw1", "sw2", "sw1"), 0, 1)
		n.Devices[0].Name = there
		isRefused(t, fmt.Sprintf("the device %q", there), n, link("sw1", "sw1", "sw2", "sw1"), name)
		isRefused(t, fmt.Sprintf("the device %q", there), n, link("sw2", "sw1", "sw1", "sw1"), name)
		n.Devices[0].Name, n.Ports[0].Name = "sw1", there
		isRefused(t, fmt.Sprintf("the port %q", there), n, link("sw1", "sw1", "sw2", "sw1"), name)
		isRefused(t, fmt.Sprintf("the port %q", there), n, link("sw2", "sw1", "sw1", "sw1"), name)
	}
}

// Of several of one name the first one is taken; what lies behind a list's end is none.
func TestLinkOfTheFirstOfAName(t *testing.T) {
	n := ladder(0, 12)
	n.Devices[1].Name, n.Devices[2].Name = "b", "b"
	for _, i := range []int{1, 5, 9} { // of the first b
		n.Ports[i].Name = "p"
	}
	for _, i := range []int{2, 6} { // of the second one
		n.Ports[i].Name = "q"
	}
	makes(t, "the first b's first p", n, link("b", "p", "sw4", "p4"), 1, 3)
	makes(t, "the first b's first p, on the other side", n, link("sw4", "p4", "b", "p"), 3, 1)
	isRefused(t, "the second b's q", n, link("b", "q", "sw4", "p4"), name)
	isRefused(t, "the second b's q, on the other side", n, link("sw4", "p4", "b", "q"), name)
	// The first p has a link now, though the others have none.
	n = makes(t, "the first p", n, link("b", "p", "sw4", "p4"), 1, 3)
	isRefused(t, "the first p again", n, link("b", "p", "sw1", "p1"), linked)
	n = ladder(0, 12)
	n.Ports = n.Ports[:7]
	isRefused(t, "a port behind the end", n, link("sw4", "p8", "sw1", "p1"), name)
	makes(t, "the last port", n, link("sw3", "p7", "sw1", "p1"), 6, 0)
	n = api.Net{Devices: row(4).Devices[:2], Ports: ladder(0, 2).Ports, Domains: ladder(0, 2).Domains[:2]}
	isRefused(t, "a device behind the end", n, link("sw3", "p1", "sw1", "p1"), name)
}

// Both ports of one device; one port with itself.
func TestLinkOfOneDevice(t *testing.T) {
	n := ladder(0, 40)
	for a := range n.Ports {
		for b := range n.Ports {
			if n.Ports[a].Dev == n.Ports[b].Dev {
				isRefused(t, "one device", n, between(n, a, b), linked)
			}
		}
	}
	n = whole()
	for i := range n.Ports {
		isRefused(t, "one port", n, between(n, i, i), linked)
	}
	isRefused(t, "the only port of a device", n, link("d", "p1", "d", "p1"), linked)
	isRefused(t, "one device, the first one has a link", n, link("a", "p2", "a", "p1"), linked)
	isRefused(t, "one device, the second one has a link", n, link("a", "p1", "a", "p2"), linked)
	isRefused(t, "one device, both have a link", n, link("b", "p1", "b", "p2"), linked)
}

// A port that has a link, on the one side, on the other one, and on both: of one link, and of two. The link of the place 0 is one as any other.
func TestLinkOfPortsThatHaveOne(t *testing.T) {
	n := whole()
	for what, l := range map[string]api.Line{
		"the first one, as A of link 0":  link("a", "p2", "d", "p1"),
		"the first one, as B of link 0":  link("b", "p1", "d", "p1"),
		"the first one, as A of link 1":  link("c", "p1", "d", "p1"),
		"the first one, as B of link 1":  link("b", "p2", "d", "p1"),
		"the second one, as A of link 0": link("d", "p1", "a", "p2"),
		"the second one, as B of link 0": link("d", "p1", "b", "p1"),
		"the second one, as A of link 1": link("d", "p1", "c", "p1"),
		"the second one, as B of link 1": link("d", "p1", "b", "p2"),
		"both, of one link":              link("a", "p2", "b", "p1"),
		"both, the other way round":      link("b", "p1", "a", "p2"),
		"both, of two links":             link("a", "p2", "c", "p1"),
		"both, of two links, either way": link("c", "p1", "a", "p2"),
	} {
		isRefused(t, what, n, l, linked)
	}
	// What was put is there.
	n = makes(t, "a link", n, link("a", "p1", "d", "p1"), 0, 6)
	isRefused(t, "the link again", n, link("a", "p1", "d", "p1"), linked)
	isRefused(t, "the link again, the other way round", n, link("d", "p1", "a", "p1"), linked)
	isRefused(t, "its first port again", n, link("a", "p1", "c", "p2"), linked)
	isRefused(t, "its second port again", n, link("c", "p2", "d", "p1"), linked)
}

// From no link to the twentieth; there are forty ports then, all of which have one, so that a further link has none to join.
func TestLinkAtTheLimit(t *testing.T) {
	for count := range mostLinks {
		for _, ports := range []int{2*count + 2, mostPorts} {
			n := ladder(count, ports)
			makes(t, fmt.Sprint(count, " links"), n, between(n, 2*count, 2*count+1), 2*count, 2*count+1)
			makes(t, fmt.Sprint(count, " links"), n, between(n, ports-1, ports-2), ports-1, ports-2)
		}
	}
	n := ladder(mostLinks, mostPorts)
	for a := range n.Ports {
		for b := range n.Ports {
			isRefused(t, "twenty links", n, between(n, a, b), linked)
		}
	}
	isRefused(t, "twenty links and no device", n, link("z", "p1", "sw2", "p2"), name)
	isRefused(t, "twenty links and no port", n, link("sw1", "p1", "sw2", "p99"), name)
	for _, count := range []int{21, 22, 40, 300} {
		n := ladder(count, 2*count)
		isRefused(t, fmt.Sprint(count, " links"), n, between(n, 0, 1), arg)
		n = ladder(19, mostPorts)
		n.Links = append(n.Links, make([]api.Link, count-19)...)
		isRefused(t, fmt.Sprint(count, " links, two ports without one"), n, between(n, 38, 39), arg)
	}
	// One after another, from none on; and room behind the list is none that counts.
	n = ladder(0, mostPorts)
	for i := range mostLinks {
		n = makes(t, fmt.Sprint("link ", i), n, between(n, i, mostPorts-1-i), i, mostPorts-1-i)
	}
	isRefused(t, "the twenty-first", n, between(n, 0, 1), linked)
	n.Links = n.Links[:19]
	n.Ports[19].Link, n.Ports[20].Link = -1, -1
	n = makes(t, "19 of 20", n, between(n, 20, 19), 20, 19)
	if len(n.Links) != mostLinks || !names.Right(n) {
		t.Errorf("%d links", len(n.Links))
	}
}

// wrongLinks are lines that are a link's but for one thing, which may not be.
func wrongLinks(right api.Line) map[string]api.Line {
	l := map[string]api.Line{}
	for _, word := range []string{"", "A", "9a", "a b", "a-b", "a.b", "-", "a\x00", "abcdefghijklm"} {
		for at := range 4 {
			one := right
			*[]*string{&one.Dev, &one.Port, &one.Peer, &one.Far}[at] = word
			l[fmt.Sprintf("the name %d is %q", at, word)] = one
		}
	}
	for i, turn := range []func(l *api.Line){
		func(l *api.Line) { l.Name = "red" },
		func(l *api.Line) { l.Mac = 1 },
		func(l *api.Line) { l.Addr = 1 },
		func(l *api.Line) { l.Bits = 1 },
		func(l *api.Line) { l.Vlan = 10 },
		func(l *api.Line) { l.Num = 1 },
		func(l *api.Line) { l.Cost = 4 },
		func(l *api.Line) { l.Tagged = []int{10} },
		func(l *api.Line) { l.Imports = []int{1} },
		func(l *api.Line) { l.Exports = []int{1} },
		func(l *api.Line) { l.Addrs = []uint32{1} },
	} {
		one := right
		turn(&one)
		l[fmt.Sprint("the field ", i)] = one
	}
	for _, kind := range []int{least, -3, -1, 0, 1, 2, 4, 5, 6, 7, 8, 9, 10, 11, 1<<32 + 3, most} {
		one := right
		one.Kind = kind
		l[fmt.Sprint("the kind ", kind)] = one
	}
	return l
}

// Lines that may not be, where a right one would be put, and where each other error would fit.
func TestLinkOfWrongLines(t *testing.T) {
	for _, right := range []api.Line{link("a", "p1", "d", "p1"), link("z", "p1", "zz", "p9"), link("a", "p1", "a", "p2"), link("a", "p2", "b", "p1"), link("sw1", "p1", "sw2", "p2")} {
		for what, l := range wrongLinks(right) {
			for of, n := range goods() {
				isRefused(t, what+" of "+of, n, l, arg)
			}
		}
	}
	// A name that no line may have is none, though a device and a port have it.
	for _, word := range []string{"", "A", "9a", "a b", "a-b", "abcdefghijklm"} {
		n := ladder(0, 4)
		n.Devices[0].Name, n.Ports[0].Name = word, word
		isRefused(t, "a device's name that may not be", n, link(word, "p5", "sw2", "p2"), arg)
		isRefused(t, "names that may not be", n, link(word, word, "sw2", "p2"), arg)
		isRefused(t, "names that may not be on the other side", n, link("sw2", "p2", word, word), arg)
	}
	isRefused(t, "no names at all", bare(), api.Line{Kind: 3}, arg)
	isRefused(t, "nothing", api.Net{}, api.Line{}, arg)
}

// others are right lines of each other kind, whose words fit the whole net.
func others() []api.Line {
	return []api.Line{
		{Row: 80, Kind: 1, Dev: "z", Num: 4096, Mac: 99},
		{Row: 80, Kind: 1, Dev: "a", Num: 4096, Mac: 1},
		{Row: 80, Kind: 2, Dev: "a", Port: "p9", Cost: 4, Vlan: 10},
		{Row: 80, Kind: 2, Dev: "a", Port: "p1", Cost: 4, Vlan: 10, Tagged: []int{20, 30}},
		{Row: 80, Kind: 4, Dev: "a", Vlan: 10, Mac: 99, Port: "p1"},
		{Row: 80, Kind: 4, Dev: "z", Vlan: 10, Mac: 99, Port: "p1"},
		{Row: 80, Kind: 5, Dev: "a", Addr: 99},
		{Row: 80, Kind: 6, Dev: "a", Vlan: 10, Num: 5010},
		{Row: 80, Kind: 7, Dev: "a", Num: 5010, Addrs: []uint32{2, 3}},
		{Row: 80, Kind: 8, Dev: "a", Name: "green", Imports: []int{1}, Exports: []int{1, 2}},
		{Row: 80, Kind: 9, Dev: "a", Vlan: 20, Name: "red", Addr: 0x0b000001, Bits: 24},
	}
}

// Right lines of each other kind, with all else right: though what they do not name is there, too.
func TestLinkOfOtherKinds(t *testing.T) {
	for of, n := range goods() {
		for _, l := range others() {
			isRefused(t, of, n, l, arg)
		}
	}
	n := whole()
	n.Devices[3].Name, n.Ports[6].Name = "", ""
	n.Devices[2].Name, n.Ports[5].Name = "z", ""
	for _, l := range others() {
		isRefused(t, "a device and its port without names", n, l, arg)
	}
}

// Nets that may not be, with a line that would be put, one for each other error, and ones that may not be.
func TestLinkOfWrongNets(t *testing.T) {
	for _, f := range faults() {
		n := whole()
		f.turn(&n)
		for what, l := range map[string]api.Line{
			"a link": link("a", "p1", "d", "p1"), "a link of b": link("d", "p1", "c", "p2"), "no device": link("z", "p1", "d", "p1"), "no port": link("a", "p1", "d", "p9"),
			"one device": link("a", "p1", "a", "p2"), "a port that has one": link("a", "p2", "d", "p1"), "a wrong line": link("", "p1", "d", "p1"), "another kind": {Kind: 5, Dev: "a", Addr: 9},
		} {
			isRefused(t, f.what+", "+what, n, l, arg)
		}
	}
}

// Which error is told where two would fit: a net or a line that may not be ahead of all, a name that is not there ahead of links, wherever each of both stands, and links ahead of what is too much.
func TestLinksErrorsInOrder(t *testing.T) {
	full := ladder(mostLinks, mostPorts)
	for what, x := range map[string]struct {
		n    api.Net
		l    api.Line
		want api.Errno
	}{
		"a port that has one, no Peer":              {whole(), link("a", "p2", "z", "p1"), name},
		"a port that has one, no Far":               {whole(), link("a", "p2", "d", "p9"), name},
		"no Dev, a Far that has one":                {whole(), link("z", "p1", "a", "p2"), name},
		"no Port, a Far that has one":               {whole(), link("d", "p9", "a", "p2"), name},
		"one device, no Port":                       {whole(), link("a", "p9", "a", "p1"), name},
		"one device, no Far":                        {whole(), link("a", "p1", "a", "p9"), name},
		"one device, neither":                       {whole(), link("a", "p9", "a", "p8"), name},
		"one name that no device has":               {whole(), link("z", "p1", "z", "p1"), name},
		"one device, a port that has one, no Far":   {whole(), link("a", "p2", "a", "p9"), name},
		"twenty links, no Dev":                      {full, link("z", "p1", "sw2", "p2"), name},
		"twenty links, no Far":                      {full, link("sw1", "p1", "sw2", "p1"), name},
		"twenty links, one device":                  {full, link("sw1", "p1", "sw1", "p5"), linked},
		"twenty links, one port":                    {full, link("sw1", "p1", "sw1", "p1"), linked},
		"twenty links, ports that have one":         {full, link("sw1", "p1", "sw2", "p2"), linked},
		"twenty links, a wrong line":                {full, link("sw1", "p1", "sw2", "-"), arg},
		"twenty links, another kind":                {full, api.Line{Kind: 5, Dev: "sw1", Addr: 1}, arg},
		"one device, a wrong line":                  {whole(), api.Line{Kind: 3, Dev: "a", Port: "p1", Peer: "a", Far: "p2", Vlan: 1}, arg},
		"no name there, a wrong line":               {whole(), api.Line{Kind: 3, Dev: "z", Port: "p1", Peer: "a", Far: "p2", Vlan: 1}, arg},
		"no name there, another kind":               {whole(), api.Line{Kind: 5, Dev: "z", Addr: 1}, arg},
		"21 links, no name there":                   {ladder(21, 42), link("z", "p1", "zz", "p1"), arg},
		"21 links, one device":                      {ladder(21, 42), link("sw1", "p1", "sw1", "p5"), arg},
		"21 links, ports that have one":             {ladder(21, 42), link("sw1", "p1", "sw2", "p2"), arg},
		"nothing but a wrong line":                  {api.Net{}, link("a", "p1", "b", ""), arg},
		"nothing but a line":                        {api.Net{}, link("a", "p1", "b", "p1"), name},
		"nothing but a line of one device":          {api.Net{}, link("a", "p1", "a", "p1"), name},
		"devices without ports, and one of both":    {row(8), link("sw1", "p1", "sw1", "p1"), name},
		"devices without ports, and one of another": {row(8), link("sw1", "p1", "sw2", "p1"), name},
	} {
		isRefused(t, what, x.n, x.l, x.want)
	}
}

// Each net with links of each two of some names, held against what the chapter says.
func TestLinkAsTheChapterSays(t *testing.T) {
	devs := []string{"a", "b", "c", "d", "sw1", "sw2", "sw4", "z", ""}
	ports := []string{"p1", "p2", "p7", "p40", "p99", "A"}
	for _, n := range []api.Net{whole(), forms(), ladder(3, 11), ladder(20, 40), {}} {
		for _, dev := range devs {
			for _, port := range ports {
				for _, peer := range devs {
					for _, far := range ports {
						isSaid(t, "a net", n, link(dev, port, peer, far))
					}
				}
			}
		}
	}
}

// Nets that are built of lines drawn, each step held against what the chapter says, wrong lines too.
func TestNetsBuiltOfLines(t *testing.T) {
	var count [40]int
	for seed := range 100 {
		draw := draws(uint64(seed))
		n := drawn(draw)
		for range 60 {
			l := between(n, draw(len(n.Ports)), draw(len(n.Ports)))
			switch l.Row = draw(400); draw(12) {
			case 0:
				l.Far = "p" + fmt.Sprint(draw(45))
			case 1:
				l.Dev = "sw" + fmt.Sprint(draw(10))
			case 2:
				l.Kind = draw(11)
			case 3:
				l.Port = []string{"", "P1", "p1"}[draw(3)]
			}
			isSaid(t, fmt.Sprint("seed ", seed), n, l)
			more, e := links.Add(n, l)
			if count[e]++; e == ok {
				n = more
			}
		}
	}
	for _, e := range []api.Errno{ok, arg, name, linked} {
		if count[e] < 100 {
			t.Errorf("the error %d is told %d times", e, count[e])
		}
	}
}
