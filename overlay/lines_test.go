package overlay_test

import (
	"fmt"
	"slices"
	"testing"

	"paling/api"
	"paling/overlay"
	"paling/stmt"
)

// P19.1 to P19.3: what all three have in common

// rights are lines of each of the three kinds that the whole net takes.
func rights() []api.Line {
	return []api.Line{vtep("d", 99), vni("a", 20, 9), vni("c", 1, 5030), flood("c", 7, 0x0a000001, 0x0a000002)}
}

// refusals are lines of each of the three kinds that the whole net does not take, each with an error of its own.
func refusals() []api.Line {
	return []api.Line{
		vtep("z", 99), vtep("a", 99), vtep("d", 0x0a000002),
		vni("z", 20, 9), vni("d", 10, 9), vni("a", 11, 9), vni("a", 10, 9), vni("a", 20, 5010),
		flood("z", 7, 9), flood("a", 7, 9), flood("a", 5010, 9), flood("c", 7, 0x0a000003),
	}
}

func TestRightsAreTakenAndRefusalsAreNot(t *testing.T) {
	count := map[api.Errno]int{}
	for _, l := range rights() {
		isSaid(t, "the whole", l.Kind, whole(), l)
		if _, e := said(whole(), l, l.Kind); e != ok {
			t.Errorf("%+v is refused with %d", l, e)
		}
	}
	for _, l := range refusals() {
		isSaid(t, "the whole", l.Kind, whole(), l)
		_, e := said(whole(), l, l.Kind)
		count[e]++
	}
	for e, want := range map[api.Errno]int{name: 4, twice: 5, noVtep: 1, member: 1, floods: 1} {
		if count[e] != want {
			t.Errorf("the error %d is told %d times", e, count[e])
		}
	}
}

// wrongLines are lines that are a right one but for one thing, which may not be.
func wrongLines(right api.Line) map[string]api.Line {
	l := map[string]api.Line{}
	turn := func(what string, with func(l *api.Line)) {
		one := clone(right, 0)
		if with(&one); !equal(one, right) {
			l[what] = one
		}
	}
	for _, word := range []string{"", "A", "9a", "a b", "a-b", "a.b", "-", "a\x00", "abcdefghijklm"} {
		turn(fmt.Sprintf("the Dev %q", word), func(l *api.Line) { l.Dev = word })
	}
	for _, vlan := range []int{least, -10, -1, 0, 4095, 1<<16 + 10, 1<<32 + 10, most} {
		turn(fmt.Sprint("the Vlan ", vlan), func(l *api.Line) { l.Vlan = vlan })
	}
	for _, num := range []int{least, -7, -1, 0, mostVni + 1, 1<<24 + 7, 1<<32 + 7, most} {
		turn(fmt.Sprint("the Num ", num), func(l *api.Line) { l.Num = num })
	}
	for _, addrs := range [][]uint32{{}, {0}, {0, 9}, {9, 0}, {9, 8}, {9, 9}, {1, 9, 9}, slices.Repeat([]uint32{9}, 16), {1, 2, 3, 4, 5, 6, 7, 8, 9, 10, 11, 12, 13, 14, 15, 16, 17}} {
		turn(fmt.Sprint("the Addrs ", addrs), func(l *api.Line) { l.Addrs = addrs })
	}
	turn("the Addr 0", func(l *api.Line) { l.Addr = 0 })
	turn("a Port", func(l *api.Line) { l.Port = "p1" })
	turn("a Peer", func(l *api.Line) { l.Peer = "b" })
	turn("a Far", func(l *api.Line) { l.Far = "p1" })
	turn("a Name", func(l *api.Line) { l.Name = "red" })
	turn("a Mac", func(l *api.Line) { l.Mac = 1 })
	turn("Bits", func(l *api.Line) { l.Bits = 1 })
	turn("a Cost", func(l *api.Line) { l.Cost = 4 })
	turn("Tagged", func(l *api.Line) { l.Tagged = []int{10} })
	turn("Imports", func(l *api.Line) { l.Imports = []int{1} })
	turn("Exports", func(l *api.Line) { l.Exports = []int{1} })
	if right.Kind != kVtep {
		turn("an Addr", func(l *api.Line) { l.Addr = 9 })
	} else {
		turn("a Num", func(l *api.Line) { l.Num = 9 })
	}
	if right.Kind != kVni {
		turn("a Vlan", func(l *api.Line) { l.Vlan = 20 })
	}
	if right.Kind != kFlood {
		turn("Addrs", func(l *api.Line) { l.Addrs = []uint32{9} })
	}
	return l
}

// Lines that may not be, where a right one would be put, and where each other error would fit.
func TestWrongLines(t *testing.T) {
	for _, right := range append(rights(), refusals()...) {
		for what, l := range wrongLines(right) {
			// A 0 that stands there anyway, or an empty list, is no fault.
			if stmt.Right(l) {
				t.Fatalf("%s: %+v may be", what, l)
			}
			for of, n := range map[string]api.Net{"the whole": whole(), "nothing": {}, "48 flood lists": listed(mostFloods)} {
				isRefused(t, what+" of "+of, right.Kind, n, l, arg)
			}
		}
	}
	// A name that no line may have is none, though a device has it.
	for _, word := range []string{"", "A", "9a", "a b", "a-b", "abcdefghijklm"} {
		n := whole()
		n.Devices[0].Name, n.Devices[2].Name, n.Devices[3].Name = word, word, word
		for _, l := range []api.Line{vtep(word, 99), vni(word, 20, 9), flood(word, 5010, 9)} {
			refuses(t, "a name that may not be", n, l, arg)
		}
	}
	for kind := range puts() {
		isRefused(t, "nothing", kind, api.Net{}, api.Line{}, arg)
		isRefused(t, "no names", kind, bare(), api.Line{Kind: kind, Vlan: 1, Num: 1, Addr: 1}, arg)
	}
}

// others are right lines of each kind, whose words fit the whole net.
func others() []api.Line {
	return append(rights(),
		api.Line{Row: 80, Kind: 1, Dev: "z", Num: 4096, Mac: 99},
		api.Line{Row: 80, Kind: 1, Dev: "d", Num: 7, Mac: 7},
		api.Line{Row: 80, Kind: 1, Dev: "c", Num: 7, Mac: 7},
		api.Line{Row: 80, Kind: 2, Dev: "a", Port: "p9", Cost: 4, Vlan: 20},
		api.Line{Row: 80, Kind: 2, Dev: "c", Port: "p9", Cost: 4, Vlan: 1, Tagged: []int{10, 30}},
		api.Line{Row: 80, Kind: 3, Dev: "a", Port: "p1", Peer: "d", Far: "p1"},
		api.Line{Row: 80, Kind: 3, Dev: "d", Port: "p1", Peer: "a", Far: "p1"},
		api.Line{Row: 80, Kind: 4, Dev: "a", Vlan: 20, Mac: 99, Port: "p2"},
		api.Line{Row: 80, Kind: 4, Dev: "d", Vlan: 10, Mac: 99, Port: "p1"},
		api.Line{Row: 80, Kind: 8, Dev: "a", Name: "green", Imports: []int{1}, Exports: []int{1, 2}},
		api.Line{Row: 80, Kind: 8, Dev: "d", Name: "green"},
		api.Line{Row: 80, Kind: 9, Dev: "a", Vlan: 20, Name: "red", Addr: 0x0b000001, Bits: 24},
		api.Line{Row: 80, Kind: 9, Dev: "d", Vlan: 10, Name: "blue", Addr: 99, Bits: 24},
	)
}

// Right lines of each other kind, with all else right: of nets of any kind, and of one whose domain of VLAN 0 could be none.
func TestOtherKinds(t *testing.T) {
	seen := map[int]bool{}
	for _, l := range others() {
		if !stmt.Right(l) {
			t.Fatalf("%+v may not be", l)
		}
		seen[l.Kind] = true
		for kind := range puts() {
			if kind == l.Kind {
				continue
			}
			for of, n := range goods() {
				isRefused(t, of, kind, n, l, arg)
			}
			n := whole()
			n.Devices[3].Name = "z"
			isRefused(t, "a device z", kind, n, l, arg)
		}
	}
	if len(seen) != 9 {
		t.Errorf("%d kinds", len(seen))
	}
	// Kinds that are none.
	for _, right := range append(rights(), refusals()...) {
		for _, kind := range []int{least, -7, -6, -5, -1, 0, 10, 11, 1<<32 + 5, 1<<32 + 6, 1<<32 + 7, most} {
			l := right
			l.Kind = kind
			isRefused(t, "a kind that is none", right.Kind, whole(), l, arg)
		}
	}
}

// Empty lists of a line are as good as none.
func TestEmptyLists(t *testing.T) {
	for _, l := range rights() {
		want, _ := said(whole(), l, l.Kind)
		l.Tagged, l.Imports, l.Exports = []int{}, []int{}, []int{}
		if l.Kind != kFlood {
			l.Addrs = []uint32{}
		}
		isPut(t, "empty lists", whole(), l, want)
	}
}

// Nets that may not be, with lines that would be put, one for each other error, and ones that may not be.
func TestWrongNets(t *testing.T) {
	for _, f := range faults() {
		n := whole()
		f.turn(&n)
		for _, l := range append(rights(), refusals()...) {
			refuses(t, f.what, n, l, arg)
			wrong := clone(l, 0)
			wrong.Bits = 1
			refuses(t, f.what+", a wrong line", n, wrong, arg)
		}
		for kind := range puts() {
			isRefused(t, f.what+", another kind", kind, n, api.Line{Kind: 4, Dev: "a", Vlan: 20, Mac: 99, Port: "p2"}, arg)
		}
	}
}

// No device Dev, with all else right: no devices, a name that a port or a VRF has, one like another one but for a letter.
func TestNoDevice(t *testing.T) {
	for what, n := range goods() {
		for _, word := range []string{"z", "p1", "red", "aa", "sw", "sw9", "sw11", "b0"} {
			for _, l := range []api.Line{vtep(word, 99), vni(word, 20, 9), vni(word, 10, 9), flood(word, 5, 9), flood(word, 7, 9)} {
				refuses(t, what, n, l, name)
			}
		}
	}
	n := whole()
	n.Devices[3].Name = ""
	refuses(t, "a name that is gone", n, vtep("d", 99), name)
	n.Devices[2].Name = "C"
	refuses(t, "a name that is gone", n, vni("c", 1, 9), name)
	refuses(t, "a name that is gone", n, flood("c", 7, 9), name)
}

// Which error is told where two would fit, in the chapter's order.
func TestErrorsInOrder(t *testing.T) {
	full, many := listed(mostFloods), listed(49)
	none := whole()
	none.Devices[2].Vtep, none.Domains[0].Peers, none.Domains[3].Peers, none.Domains[8].Peers = 0, nil, nil, nil
	for what, x := range map[string]struct {
		n    api.Net
		l    api.Line
		want api.Errno
	}{
		"vtep: no device, an address that one has":               {whole(), vtep("z", 0x0a000001), name},
		"vtep: no device, a wrong line":                          {whole(), vtep("z", 0), arg},
		"vtep: one that is there, a wrong line":                  {whole(), vtep("a", 0), arg},
		"vtep: one that is there, twice":                         {whole(), vtep("a", 0x0a000002), twice},
		"vtep: 49 flood lists, no device":                        {many, vtep("z", 9), arg},
		"vtep: 49 flood lists, one that is there":                {many, vtep("sw1", 1), arg},
		"vtep: nothing but a line":                               {api.Net{}, vtep("a", 9), name},
		"vtep: nothing but a wrong line":                         {api.Net{}, vtep("a", 0), arg},
		"vni: no device, a VLAN and a VNI that are there":        {whole(), vni("z", 10, 5010), name},
		"vni: no device, a wrong line":                           {whole(), vni("z", 0, 9), arg},
		"vni: no VTEP, a wrong line":                             {whole(), vni("d", 10, 0), arg},
		"vni: no VTEP, no domain":                                {whole(), vni("d", 11, 9), noVtep},
		"vni: no VTEP, no domain, a VNI that another one has":    {whole(), vni("d", 20, 5010), noVtep},
		"vni: no VTEP, a domain that has a VNI":                  {none, vni("c", 4094, 9), noVtep},
		"vni: no VTEP, a VNI that is there":                      {none, vni("c", 1, 7), noVtep},
		"vni: no VTEP, no domain, a VNI that is there":           {none, vni("c", 2, 7), noVtep},
		"vni: no domain, a wrong line":                           {whole(), vni("a", 11, 0), arg},
		"vni: no domain, a VNI that is there":                    {whole(), vni("a", 11, 5010), member},
		"vni: no domain, a VNI of another device":                {whole(), vni("a", 40, 7), member},
		"vni: a domain that has it":                              {whole(), vni("a", 10, 5010), twice},
		"vni: 49 flood lists, no domain":                         {many, vni("sw1", 11, 9), arg},
		"vni: 49 flood lists":                                    {many, vni("sw1", 30, 9), arg},
		"vni: nothing but a line":                                {api.Net{}, vni("a", 10, 9), name},
		"flood: no device, its own VTEP of another one":          {whole(), flood("z", 7, 0x0a000003), name},
		"flood: no device, 48 flood lists":                       {full, flood("z", 5, 9), name},
		"flood: no domain, a wrong line":                         {whole(), flood("a", 5011), arg},
		"flood: no domain, the own VTEP":                         {whole(), flood("a", 5011, 0x0a000001), name},
		"flood: no domain, a list that is there":                 {full, flood("sw2", 1000, 1), name},
		"flood: no domain, a list that is there, the own VTEP":   {full, flood("sw2", 1000, 2), name},
		"flood: no domain, 48 flood lists":                       {full, flood("sw1", 7, 2), name},
		"flood: one that is there, a wrong line":                 {whole(), flood("a", 5010, 9, 9), arg},
		"flood: one that is there, the own VTEP":                 {whole(), flood("a", 5010, 0x0a000001), twice},
		"flood: the own VTEP, a wrong line":                      {whole(), flood("c", 7, 0x0a000003, 9), arg},
		"flood: the own VTEP, 48 flood lists":                    {full, flood("sw1", 5, 1, 2), floods},
		"flood: the own VTEP, 48 flood lists, the other device":  {full, flood("sw2", 6, 1, 2), floods},
		"flood: 48 flood lists, a wrong line":                    {full, flood("sw1", 5, 2, 2), arg},
		"flood: 48 flood lists":                                  {full, flood("sw1", 5, 2), big},
		"flood: 49 flood lists, no device":                       {many, flood("z", 5, 2), arg},
		"flood: 49 flood lists, no domain":                       {many, flood("sw1", 7, 2), arg},
		"flood: 49 flood lists, one that is there":               {many, flood("sw2", 1000, 1), arg},
		"flood: 49 flood lists, the own VTEP":                    {many, flood("sw1", 5, 1), arg},
		"flood: nothing but a line":                              {api.Net{}, flood("a", 5, 2), name},
		"flood: nothing but a wrong line":                        {api.Net{}, flood("a", 5), arg},
		"flood: one that is there, the own VTEP, 48 flood lists": {twiceFull(), flood("sw1", 5, 1), twice},
		"flood: one that is there, 48 flood lists":               {twiceFull(), flood("sw1", 5, 2), twice},
	} {
		refuses(t, what, x.n, x.l, x.want)
	}
}

// twiceFull is a net of 48 flood lists, the last one of which is of sw1 and the VNI 5.
func twiceFull() api.Net {
	n := listed(mostFloods)
	n.Floods[47] = api.Flood{Dev: 0, Vni: 5, Addrs: to(2)}
	return n
}

// Each net with lines of some names, VLANs, VNIs and addresses, held against what the chapter says.
func TestLinesAsTheChapterSays(t *testing.T) {
	for of, n := range goods() {
		for _, dev := range []string{"a", "b", "c", "d", "sw1", "sw2", "sw3", "sw8", "z", ""} {
			for _, addr := range []uint32{0, 1, 2, 3, 8, 9, 0x0a000001, 0x0a000004, 0xffffffff} {
				isSaid(t, of, kVtep, n, vtep(dev, addr))
			}
			for _, num := range []int{0, 1, 2, 3, 5, 6, 7, 9, 1000, 5010, 5030, mostVni, mostVni + 1} {
				for _, vlan := range []int{0, 1, 4, 10, 11, 20, 30, 40, 4094, 4095} {
					isSaid(t, of, kVni, n, vni(dev, vlan, num))
				}
				for _, addrs := range [][]uint32{{1}, {2}, {1, 2}, {9}, {0x0a000001, 0x0a000003}, {}, {2, 1}} {
					isSaid(t, of, kFlood, n, flood(dev, num, addrs...))
				}
			}
		}
	}
}

// Nets that are built of lines drawn, each step held against what the chapter says, wrong lines and the meshes too.
func TestNetsBuiltOfLines(t *testing.T) {
	count := map[int]*[40]int{kVtep: {}, kVni: {}, kFlood: {}}
	for seed := range 100 {
		draw := draws(uint64(seed))
		n := drawn(draw)
		if draw(2) == 0 {
			n = raw(n)
		}
		for range 80 {
			l := drawnLine(n, draw)
			kind := l.Kind
			if draw(20) == 0 {
				l.Kind = draw(11)
			}
			isSaid(t, fmt.Sprint("seed ", seed), kind, n, l)
			more, e := puts()[kind](n, l)
			if count[kind][e]++; e == ok {
				n = more
			}
		}
		isMeshedAsSaid(t, fmt.Sprint("seed ", seed), n)
	}
	for kind, errors := range map[int][]api.Errno{kVtep: {ok, arg, name, twice}, kVni: {ok, arg, name, noVtep, member, twice}, kFlood: {ok, arg, name, twice, floods}} {
		for _, e := range errors {
			if count[kind][e] < 50 {
				t.Errorf("the call of the kind %d tells %d %d times", kind, e, count[kind][e])
			}
		}
	}
}

// raw is a net without VTEPs, VNIs, flood lists and peers.
func raw(n api.Net) api.Net {
	n = clone(n, 0)
	for i := range n.Devices {
		n.Devices[i].Vtep = 0
	}
	for i := range n.Domains {
		n.Domains[i].Vni, n.Domains[i].Peers = 0, nil
	}
	n.Floods = nil
	return n
}

// drawnLine is a line of one of the three kinds, most of which name what a net has.
func drawnLine(n api.Net, draw func(below int) int) api.Line {
	dev := "sw" + fmt.Sprint(1+draw(len(n.Devices)+1))
	if draw(12) == 0 {
		dev = []string{"sw9", "", "z"}[draw(3)]
	}
	num := []int{5, 5010, mostVni, 7}[draw(4)]
	l := vtep(dev, uint32(draw(10)))
	switch draw(5) {
	case 0, 1:
		l = vni(dev, []int{10, 20, 300, mostVlan, 11}[draw(5)], num)
	case 2, 3:
		l = flood(dev, num)
		for addr := range uint32(10) {
			if addr > 0 && draw(3) == 0 {
				l.Addrs = append(l.Addrs, addr)
			}
		}
	}
	l.Row = draw(400)
	return l
}

// The net that three lines of each device make, one after another, is the one that is written out.
func TestLinesMakeANet(t *testing.T) {
	for count := 2; count <= 8; count++ {
		want := full(count)
		n := raw(want)
		for i := range n.Domains {
			n.Domains[i].Row = 0
		}
		for dev, d := range want.Devices {
			n = makesVtep(t, "a VTEP", n, vtep(d.Name, d.Vtep), dev)
			l := vni(d.Name, 10, 5)
			l.Row = 20 + dev
			n = makesVni(t, "a VNI", n, l, dev)
		}
		for dev, f := range want.Floods {
			l := flood(want.Devices[dev].Name, 5, f.Addrs...)
			l.Row = f.Row
			n = makesFlood(t, "a flood list", n, l, dev)
		}
		if !equal(n, want) {
			t.Errorf("%+v, not %+v", n, want)
		}
		if _, row, e := overlay.Mesh(n); row != 0 || e != ok {
			t.Errorf("%d devices: the error %d of the row %d", count, e, row)
		}
	}
}
