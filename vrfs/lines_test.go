package vrfs_test

import (
	"fmt"
	"testing"

	"paling/api"
	"paling/stmt"
	"paling/vrfs"
)

// P20.1 and P20.2: what both have in common

// rights are lines of both kinds that the whole net takes.
func rights() []api.Line {
	return []api.Line{
		vrf("d", "red", by(1), by(2)), vrf("a", "green", nil, nil), vrf("b", "blue", by(1, 2, 3), nil),
		irb("a", 20, "red", 0x0c000001, 24), irb("a", 20, "blue", 0x0a000002, 24), irb("b", 10, "red", 0x0a000102, 24), irb("c", 4094, "green", 0x0c000001, 30), irb("c", 40, "red", 0xf0000001, 4),
	}
}

// refusals are lines of both kinds that the whole net does not take, each for a reason of its own.
func refusals() []api.Line {
	return []api.Line{
		vrf("z", "red", by(1), nil), vrf("a", "red", by(1), by(2)), vrf("c", "green", nil, nil),
		irb("z", 20, "red", 0x0c000001, 24), irb("a", 20, "green", 0x0c000001, 24), irb("c", 1, "blue", 0x0c000001, 24),
		irb("a", 40, "red", 0x0c000001, 24), irb("c", 10, "red", 0x0c000001, 24),
		irb("a", 10, "red", 0x0c000001, 24), irb("d", 10, "blue", 0x0c000001, 24),
		irb("a", 20, "red", 0x0a000001, 24), irb("c", 1, "red", 0x0a000001, 30),
		irb("c", 1, "red", 0x0a000002, 24), irb("c", 1, "red", 0x0a000341, 30),
	}
}

func TestRightsAreTakenAndRefusalsAreNot(t *testing.T) {
	count := map[api.Errno]int{}
	for _, l := range rights() {
		isSaid(t, "the whole", l.Kind, whole(), l)
		if _, e := said(whole(), l, l.Kind); e != ok {
			t.Errorf("%+v is refused with %d", l, e)
		}
	}
	for _, l := range refusals() {
		isSaid(t, "the whole", l.Kind, whole(), l)
		_, e := said(whole(), l, l.Kind)
		count[e]++
	}
	for e, want := range map[api.Errno]int{name: 4, twice: 2, member: 2, faces: 6} {
		if count[e] != want {
			t.Errorf("the error %d is told %d times", e, count[e])
		}
	}
}

// wrongLines are lines that are a right one but for one thing, which may not be.
func wrongLines(right api.Line) map[string]api.Line {
	l := map[string]api.Line{}
	turn := func(what string, with func(l *api.Line)) {
		one := clone(right, 0)
		if with(&one); !equal(one, right) {
			l[what] = one
		}
	}
	for _, word := range []string{"", "A", "9a", "a b", "a-b", "a.b", "-", "a\x00", "abcdefghijklm"} {
		turn(fmt.Sprintf("the Dev %q", word), func(l *api.Line) { l.Dev = word })
		turn(fmt.Sprintf("the Name %q", word), func(l *api.Line) { l.Name = word })
	}
	turn("a Port", func(l *api.Line) { l.Port = "p1" })
	turn("a Peer", func(l *api.Line) { l.Peer = "b" })
	turn("a Far", func(l *api.Line) { l.Far = "p1" })
	turn("a Mac", func(l *api.Line) { l.Mac = 1 })
	turn("a Num", func(l *api.Line) { l.Num = 1 })
	turn("a Cost", func(l *api.Line) { l.Cost = 4 })
	turn("Tagged", func(l *api.Line) { l.Tagged = by(10) })
	turn("Addrs", func(l *api.Line) { l.Addrs = []uint32{9} })
	if right.Kind == kVrf {
		for _, list := range [][]int{{0}, {-1}, {65536}, {1 << 32}, {2, 1}, {3, 3}, {0, 1}, {1, 2, 3, 4, 5, 6, 7, 8, 9, 10, 11, 12, 13, 14, 15, 16, 17}} {
			turn(fmt.Sprint("the Imports ", list), func(l *api.Line) { l.Imports = list })
			turn(fmt.Sprint("the Exports ", list), func(l *api.Line) { l.Exports = list })
		}
		turn("a Vlan", func(l *api.Line) { l.Vlan = 10 })
		turn("an Addr", func(l *api.Line) { l.Addr = 0x0c000001 })
		turn("Bits", func(l *api.Line) { l.Bits = 24 })
		return l
	}
	for _, vlan := range []int{least, -10, -1, 0, 4095, 1<<16 + 10, 1<<32 + 10, most} {
		turn(fmt.Sprint("the Vlan ", vlan), func(l *api.Line) { l.Vlan = vlan })
	}
	for _, bits := range []int{least, -24, -1, 0, 31, 32, 33, 1<<32 + 24, most} {
		turn(fmt.Sprint("the Bits ", bits), func(l *api.Line) { l.Bits = bits })
	}
	turn("the first address", func(l *api.Line) { l.Addr, l.Bits = 0x0c000000, 24 })
	turn("the last address", func(l *api.Line) { l.Addr = 0xffffffff })
	turn("Imports", func(l *api.Line) { l.Imports = by(1) })
	turn("Exports", func(l *api.Line) { l.Exports = by(1) })
	return l
}

// Lines that may not be, where a right one would be put, and where each other error would fit.
func TestWrongLines(t *testing.T) {
	for _, right := range append(rights(), refusals()...) {
		for what, l := range wrongLines(right) {
			if stmt.Right(l) {
				t.Fatalf("%s: %+v may be", what, l)
			}
			for of, n := range map[string]api.Net{"the whole": whole(), "nothing": {}, "16 VRFs": filled(mostVrfs)} {
				isRefused(t, what+" of "+of, right.Kind, n, l, arg)
			}
		}
	}
	// A name that no line may have is none, though a device, or a VRF, has it.
	for _, word := range []string{"", "A", "9a", "a b", "a-b", "abcdefghijklm"} {
		n := whole()
		n.Devices[0].Name, n.Devices[3].Name = word, word
		for _, l := range []api.Line{vrf(word, "green", nil, nil), irb(word, 20, "red", 0x0c000001, 24)} {
			refuses(t, "a name that may not be", n, l, arg)
		}
		n = whole()
		n.Vrfs[0].Name, n.Vrfs[2].Name = word, word
		for _, l := range []api.Line{vrf("a", word, nil, nil), irb("a", 20, word, 0x0c000001, 24)} {
			refuses(t, "a VRF's name that may not be", n, l, arg)
		}
	}
	for kind := range puts() {
		isRefused(t, "nothing", kind, api.Net{}, api.Line{}, arg)
		isRefused(t, "no names", kind, bare(), api.Line{Kind: kind, Vlan: 1, Addr: 1, Bits: 24}, arg)
		isRefused(t, "no names", kind, bare(), api.Line{Kind: kind}, arg)
	}
}

// others are right lines of each kind, whose words fit the whole net.
func others() []api.Line {
	return append(rights(),
		api.Line{Row: 80, Kind: 1, Dev: "z", Num: 4096, Mac: 99},
		api.Line{Row: 80, Kind: 1, Dev: "a", Num: 7, Mac: 7},
		api.Line{Row: 80, Kind: 1, Dev: "c", Num: 7, Mac: 7},
		api.Line{Row: 80, Kind: 2, Dev: "a", Port: "p9", Cost: 4, Vlan: 20},
		api.Line{Row: 80, Kind: 2, Dev: "c", Port: "p9", Cost: 4, Vlan: 1, Tagged: []int{10, 30}},
		api.Line{Row: 80, Kind: 3, Dev: "a", Port: "p1", Peer: "d", Far: "p1"},
		api.Line{Row: 80, Kind: 3, Dev: "d", Port: "p1", Peer: "a", Far: "p1"},
		api.Line{Row: 80, Kind: 4, Dev: "a", Vlan: 20, Mac: 99, Port: "p2"},
		api.Line{Row: 80, Kind: 4, Dev: "c", Vlan: 1, Mac: 99, Port: "p2"},
		api.Line{Row: 80, Kind: 5, Dev: "a", Addr: 99},
		api.Line{Row: 80, Kind: 5, Dev: "d", Addr: 99},
		api.Line{Row: 80, Kind: 6, Dev: "a", Vlan: 20, Num: 9},
		api.Line{Row: 80, Kind: 6, Dev: "c", Vlan: 1, Num: 9},
		api.Line{Row: 80, Kind: 7, Dev: "c", Num: 7, Addrs: []uint32{9}},
	)
}

// Right lines of each other kind, with all else right: of nets of any kind, and of ones where a VRF has the name that a line does not have, and a domain the VLAN.
func TestOtherKinds(t *testing.T) {
	seen := map[int]bool{}
	for _, l := range others() {
		if !stmt.Right(l) {
			t.Fatalf("%+v may not be", l)
		}
		seen[l.Kind] = true
		for kind := range puts() {
			if kind == l.Kind {
				continue
			}
			for of, n := range goods() {
				isRefused(t, of, kind, n, l, arg)
			}
			n := whole()
			n.Devices[3].Name = "z"
			isRefused(t, "a device z", kind, n, l, arg)
			for i := range n.Vrfs {
				n.Vrfs[i].Name = ""
			}
			isRefused(t, "VRFs without names", kind, n, l, arg)
		}
	}
	if len(seen) != 9 {
		t.Errorf("%d kinds", len(seen))
	}
	// Kinds that are none, or another one's.
	for _, right := range append(rights(), refusals()...) {
		for _, kind := range []int{least, -9, -8, -1, 0, 1, 2, 3, 4, 5, 6, 7, 17 - right.Kind, 10, 11, 1<<32 + 8, 1<<32 + 9, most} {
			l := right
			l.Kind = kind
			isRefused(t, "another kind", right.Kind, whole(), l, arg)
		}
	}
}

// Empty lists of a line are as good as none.
func TestEmptyLists(t *testing.T) {
	for _, l := range rights() {
		want, _ := said(whole(), l, l.Kind)
		l.Tagged, l.Addrs = []int{}, []uint32{}
		if len(l.Imports) == 0 {
			l.Imports = []int{}
		}
		if len(l.Exports) == 0 {
			l.Exports = []int{}
		}
		isPut(t, "empty lists", whole(), l, want)
	}
}

// Nets that may not be, with lines that would be put, one for each other error, and ones that may not be.
func TestWrongNets(t *testing.T) {
	for _, f := range faults() {
		n := whole()
		f.turn(&n)
		for _, l := range append(rights(), refusals()...) {
			refuses(t, f.what, n, l, arg)
			wrong := clone(l, 0)
			wrong.Cost = 1
			refuses(t, f.what+", a wrong line", n, wrong, arg)
		}
		for kind := range puts() {
			isRefused(t, f.what+", another kind", kind, n, api.Line{Kind: 4, Dev: "a", Vlan: 20, Mac: 99, Port: "p2"}, arg)
		}
	}
}

// No device Dev, with all else right: no devices, a name that a port or a VRF has, one like another one but for a letter.
func TestNoDevice(t *testing.T) {
	for what, n := range goods() {
		for _, word := range []string{"z", "p1", "red", "aa", "sw", "sw9", "sw11", "b0"} {
			for _, l := range []api.Line{vrf(word, "black", nil, nil), vrf(word, "red", by(1), by(2)), irb(word, 20, "red", 0x0c000001, 24), irb(word, 1, "red", 0x0c000001, 24)} {
				refuses(t, what, n, l, name)
			}
		}
	}
	n := whole()
	n.Devices[3].Name = ""
	refuses(t, "a name that is gone", n, vrf("d", "red", nil, nil), name)
	n.Devices[2].Name = "C"
	refuses(t, "a name that is gone", n, vrf("c", "blue", nil, nil), name)
	refuses(t, "a name that is gone", n, irb("c", 1, "green", 0x0c000001, 24), name)
}

// Which error is told where two would fit, in the chapter's order.
func TestErrorsInOrder(t *testing.T) {
	full, many := filled(mostVrfs), filled(17)
	for what, x := range map[string]struct {
		n    api.Net
		l    api.Line
		want api.Errno
	}{
		"vrf: no device, a wrong line":                             {whole(), vrf("z", "red", by(0), nil), arg},
		"vrf: no device, a name that each one has":                 {whole(), vrf("z", "red", nil, nil), name},
		"vrf: no device, 16 VRFs":                                  {full, vrf("z", "black", nil, nil), name},
		"vrf: no device, a name that is there, 16 VRFs":            {full, vrf("z", "r0", nil, nil), name},
		"vrf: one that is there, a wrong line":                     {whole(), vrf("a", "red", by(2, 1), nil), arg},
		"vrf: one that is there, 16 VRFs":                          {full, vrf("sw1", "r0", nil, nil), twice},
		"vrf: the last one, 16 VRFs":                               {full, vrf("sw2", "r15", by(1), by(2)), twice},
		"vrf: 16 VRFs":                                             {full, vrf("sw2", "r0", nil, nil), big},
		"vrf: 16 VRFs, a wrong line":                               {full, vrf("sw2", "black", by(0), nil), arg},
		"vrf: 16 VRFs, another kind":                               {full, api.Line{Kind: 5, Dev: "sw1", Addr: 1}, arg},
		"vrf: 17 VRFs":                                             {many, vrf("sw1", "black", nil, nil), arg},
		"vrf: 17 VRFs, no device":                                  {many, vrf("z", "black", nil, nil), arg},
		"vrf: 17 VRFs, one that is there":                          {many, vrf("sw1", "r0", nil, nil), arg},
		"vrf: nothing but a line":                                  {api.Net{}, vrf("a", "red", nil, nil), name},
		"vrf: nothing but a wrong line":                            {api.Net{}, vrf("a", "", nil, nil), arg},
		"irb: no device, a wrong line":                             {whole(), irb("z", 20, "red", 0x0c000000, 24), arg},
		"irb: no device, no VRF":                                   {whole(), irb("z", 20, "black", 0x0c000001, 24), name},
		"irb: no device, no domain":                                {whole(), irb("z", 11, "red", 0x0c000001, 24), name},
		"irb: no device, an address that one has":                  {whole(), irb("z", 20, "red", 0x0a000001, 24), name},
		"irb: no VRF, a wrong line":                                {whole(), irb("a", 20, "green", 0x0c000001, 31), arg},
		"irb: no VRF, no domain":                                   {whole(), irb("a", 11, "green", 0x0c000001, 24), name},
		"irb: no VRF, a domain that has one":                       {whole(), irb("a", 10, "green", 0x0c000001, 24), name},
		"irb: no VRF, an address that one has":                     {whole(), irb("a", 20, "green", 0x0a000001, 24), name},
		"irb: no VRF, a prefix that one is in":                     {whole(), irb("c", 1, "blue", 0x0a000002, 24), name},
		"irb: no VRF, no domain, an address":                       {whole(), irb("b", 20, "blue", 0x0a000001, 24), name},
		"irb: no domain, a wrong line":                             {whole(), irb("a", 11, "red", 0x0c0000ff, 24), arg},
		"irb: no domain, an address that one has":                  {whole(), irb("a", 11, "red", 0x0a000001, 24), member},
		"irb: no domain, a prefix that one is in":                  {whole(), irb("c", 10, "red", 0x0a000002, 24), member},
		"irb: no domain, one of another device that has one":       {whole(), irb("c", 10, "red", 0x0c000001, 24), member},
		"irb: no domain, a prefix that has it":                     {whole(), irb("c", 20, "red", 0x0a000341, 30), member},
		"irb: a domain that has one, a wrong line":                 {whole(), irb("a", 10, "red", 0, 24), arg},
		"irb: a domain that has one, an address that one has":      {whole(), irb("a", 10, "red", 0x0a000001, 24), faces},
		"irb: an address that one has, a wrong line":               {whole(), irb("c", 1, "red", 0x0a000001, 32), arg},
		"irb: an address that one has, another kind":               {whole(), api.Line{Kind: 5, Dev: "c", Addr: 0x0a000001}, arg},
		"irb: 17 VRFs":                                             {many, irb("sw1", 10, "r0", 0x0c000001, 24), arg},
		"irb: 17 VRFs, no VRF":                                     {many, irb("sw1", 10, "r1", 0x0c000001, 24), arg},
		"irb: 17 VRFs, no device":                                  {many, irb("z", 10, "r0", 0x0c000001, 24), arg},
		"irb: nothing but a line":                                  {api.Net{}, irb("a", 10, "red", 0x0c000001, 24), name},
		"irb: nothing but a wrong line":                            {api.Net{}, irb("a", 0, "red", 0x0c000001, 24), arg},
		"irb: nothing but a device, no VRF and no domain":          {row(1), irb("sw1", 10, "red", 0x0c000001, 24), name},
		"irb: nothing but a device and a VRF":                      {laid(1, 0), irb("sw1", 10, "red", 0x0c000001, 24), member},
		"irb: 16 VRFs, one of them of the other device":            {full, irb("sw1", 10, "r1", 0x0c000001, 24), name},
		"irb: 16 VRFs, one of them of the other device, no domain": {full, irb("sw1", 30, "r1", 0x0c000001, 24), name},
		"irb: 16 VRFs, one of them of the device, no domain":       {full, irb("sw1", 30, "r0", 0x0c000001, 24), member},
		"irb: 16 VRFs, one of them of the device, a wrong line":    {full, irb("sw1", 30, "r0", 0, 24), arg},
	} {
		kind := kIrb
		if what[:3] == "vrf" {
			kind = kVrf
		}
		isRefused(t, what, kind, x.n, x.l, x.want)
	}
	makesIrb(t, "16 VRFs", full, irb("sw1", 10, "r14", 0x0c000001, 24), 0, 14)
}

// Each net with lines of some names, VLANs, targets and addresses, held against what the chapter says.
func TestLinesAsTheChapterSays(t *testing.T) {
	for of, n := range goods() {
		for _, dev := range []string{"a", "b", "c", "d", "sw1", "sw2", "sw8", "z", ""} {
			for _, word := range []string{"red", "blue", "green", "r0", "r15", "x", ""} {
				isSaid(t, of, kVrf, n, vrf(dev, word, by(1), by(2, 3)))
				isSaid(t, of, kVrf, n, vrf(dev, word, nil, by(2, 2)))
				for _, vlan := range []int{0, 1, 4, 6, 10, 11, 20, 30, 40, 4094} {
					for _, p := range []api.Prefix{prefix(0x0a000001, 24), prefix(0x0a000002, 24), prefix(0x0a000001, 8), prefix(0x0c000001, 24), prefix(1, 30), prefix(0, 30), prefix(0x0a000102, 29), prefix(0x0a000341, 30), prefix(0x7ffffffe, 1)} {
						isSaid(t, of, kIrb, n, irb(dev, vlan, word, p.Addr, p.Bits))
					}
				}
			}
		}
	}
}

// Nets that are built of lines drawn, each step held against what the chapter says, wrong lines too.
func TestNetsBuiltOfLines(t *testing.T) {
	count := map[int]*[40]int{kVrf: {}, kIrb: {}}
	for seed := range 150 {
		draw := draws(uint64(seed))
		n := drawn(draw)
		if draw(2) == 0 {
			n = raw(n)
		}
		for range 80 {
			l := drawnLine(n, draw)
			kind := l.Kind
			if draw(20) == 0 {
				l.Kind = draw(11)
			}
			isSaid(t, fmt.Sprint("seed ", seed), kind, n, l)
			more, e := puts()[kind](n, l)
			if count[kind][e]++; e == ok {
				n = more
			}
		}
	}
	for kind, errors := range map[int][]api.Errno{kVrf: {ok, arg, name, twice, big}, kIrb: {ok, arg, name, member, faces}} {
		for _, e := range errors {
			if count[kind][e] < 100 {
				t.Errorf("the call of the kind %d tells %d %d times", kind, e, count[kind][e])
			}
		}
	}
}

// raw is a net without VRFs and interfaces.
func raw(n api.Net) api.Net {
	n = clone(n, 0)
	for i := range n.Domains {
		n.Domains[i].Irb = -1
	}
	n.Vrfs, n.Irbs = nil, nil
	return n
}

// drawnLine is a line of either kind, most of which name what a net has.
func drawnLine(n api.Net, draw func(below int) int) api.Line {
	dev := []string{"sw9", "", "z"}[draw(3)]
	if len(n.Devices) > 0 && draw(15) > 0 {
		dev = n.Devices[draw(len(n.Devices))].Name
	}
	l := vrf(dev, drawnWord(draw), drawnTargets(draw), drawnTargets(draw))
	if draw(3) > 0 {
		p := drawnPrefix(draw)
		l = irb(dev, []int{10, 20, 300, mostVlan, 11}[draw(5)], drawnWord(draw), p.Addr, p.Bits)
		if v := draw(len(n.Vrfs) + 1); v < len(n.Vrfs) && draw(3) > 0 {
			l.Dev, l.Name = n.Devices[n.Vrfs[v].Dev].Name, n.Vrfs[v].Name
		}
	}
	l.Row = draw(400)
	return l
}

// The net that lines make, one after another, is the one that is written out.
func TestLinesMakeANet(t *testing.T) {
	want := whole()
	n := raw(want)
	for i, v := range want.Vrfs {
		l := vrf(want.Devices[v.Dev].Name, v.Name, v.Imports, v.Exports)
		l.Row = v.Row
		n = makesVrf(t, "a VRF", n, l, v.Dev)
		if i+1 != len(n.Vrfs) {
			t.Fatalf("%d VRFs", len(n.Vrfs))
		}
	}
	for _, i := range want.Irbs {
		d := want.Domains[i.Domain]
		l := irb(want.Devices[d.Dev].Name, d.Vlan, want.Vrfs[i.Vrf].Name, i.Net.Addr, i.Net.Bits)
		l.Row = i.Row
		n = makesIrb(t, "an interface", n, l, i.Domain, i.Vrf)
	}
	if !equal(n, want) {
		t.Errorf("%+v, not %+v", n, want)
	}
	for i := range want.Irbs {
		routes(t, "the whole", n, want.Irbs[i].Domain, host(want.Irbs[i].Net.Addr), i)
	}
	if !vrfs.Leaks(n, 2, 0) || vrfs.Leaks(n, 0, 2) {
		t.Error("what leaks is not what did")
	}
}
