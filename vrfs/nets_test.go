package vrfs_test

import (
	"math"
	"reflect"
	"slices"
	"strconv"
	"testing"

	"paling/api"
	"paling/names"
	"paling/stmt"
	"paling/vrfs"
)

// What the document's limits are, and the errors that are told here, in numbers of the tests' own.
const (
	mostVrfs   = 16
	mostVlan   = 4094
	mostTarget = 65535

	ok     api.Errno = 0
	arg    api.Errno = 2
	big    api.Errno = 3
	twice  api.Errno = 30
	name   api.Errno = 31
	member api.Errno = 32
	faces  api.Errno = 37
)

// Kinds of lines.
const (
	kVrf = 8
	kIrb = 9
)

// Ends of a type's numbers.
const (
	least = math.MinInt
	most  = math.MaxInt
)

// vrf is the line of a VRF.
func vrf(dev, word string, imports, exports []int) api.Line {
	return api.Line{Row: 90, Kind: kVrf, Dev: dev, Name: word, Imports: imports, Exports: exports}
}

// irb is the line of an interface.
func irb(dev string, vlan int, word string, addr uint32, bits int) api.Line {
	return api.Line{Row: 90, Kind: kIrb, Dev: dev, Vlan: vlan, Name: word, Addr: addr, Bits: bits}
}

// by is a list of these targets.
func by(targets ...int) []int { return append([]int{}, targets...) }

// prefix is an address with how many of its bits count.
func prefix(addr uint32, bits int) api.Prefix { return api.Prefix{Addr: addr, Bits: bits} }

// puts are the calls that put lines, by the kinds that they take.
func puts() map[int]func(n api.Net, l api.Line) (api.Net, api.Errno) {
	return map[int]func(n api.Net, l api.Line) (api.Net, api.Errno){kVrf: vrfs.Vrf, kIrb: vrfs.Irb}
}

// row is a net of so many devices, sw1 and so on, without anything else.
func row(count int) api.Net {
	var n api.Net
	for i := range count {
		n.Devices = append(n.Devices, api.Device{Row: i + 1, Priority: 4096 * i, Name: "sw" + strconv.Itoa(i+1), Mac: uint64(i + 1)})
	}
	return n
}

// laid is a row of so many devices with a VRF red each, that has the device's place, and with as many domains each, of VLAN 1, 2 and so on, those of one device one behind another.
func laid(count, domains int) api.Net {
	n := row(count)
	for dev := range n.Devices {
		n.Vrfs = append(n.Vrfs, api.Vrf{Row: 10 + dev, Dev: dev, Name: "red"})
		for i := range domains {
			n.Domains = append(n.Domains, api.Domain{Dev: dev, Vlan: i + 1, Irb: -1})
		}
	}
	return n
}

// faced is a net with one interface more, of a domain and in a VRF of these places.
func faced(n api.Net, domain, vrf int, p api.Prefix) api.Net {
	n = clone(n, 0)
	n.Domains[domain].Irb = len(n.Irbs)
	n.Irbs = append(n.Irbs, api.Irb{Row: 50 + len(n.Irbs), Domain: domain, Vrf: vrf, Net: p})
	return n
}

// filled is a net of two devices, sw1 and sw2, of the VLANs 10 and 20, with so many VRFs, r0, r1 and so on, in turns of both devices.
func filled(count int) api.Net {
	n := row(2)
	for dev := range n.Devices {
		n.Domains = append(n.Domains, api.Domain{Dev: dev, Vlan: 10, Irb: -1}, api.Domain{Dev: dev, Vlan: 20, Irb: -1})
	}
	for i := range count {
		n.Vrfs = append(n.Vrfs, api.Vrf{Row: 30 + i, Dev: i % 2, Name: "r" + strconv.Itoa(i), Imports: by(i + 1), Exports: by(i+1, i+2)})
	}
	return n
}

// whole is a net that has all there is: devices, links with access ports and with trunks, meshes, static entries, flood lists, VRFs and interfaces. The domains 1, 3, 5, 6 and 8, of the devices a, b, c, c and c, have no interface, and c has none at all.
func whole() api.Net {
	return api.Net{
		Devices: []api.Device{
			{Row: 1, Priority: 4096, Name: "a", Mac: 1, Vtep: 0x0a000001},
			{Row: 2, Priority: 8192, Name: "b", Mac: 2, Vtep: 0x0a000002},
			{Row: 3, Name: "c", Mac: 3, Vtep: 0x0a000003},
			{Row: 4, Name: "d", Mac: 0xfeffffffffff},
		},
		Ports: []api.Port{
			{Row: 5, Dev: 0, Native: 10, Cost: 4, Link: -1, Name: "p1"},
			{Row: 6, Dev: 0, Native: 20, Cost: 5, Link: 0, Name: "p2", Tagged: []int{10, 30}},
			{Row: 7, Dev: 1, Cost: 6, Link: 0, Name: "p1", Tagged: []int{10, 30}},
			{Row: 8, Dev: 1, Native: 30, Cost: 7, Link: 1, Name: "p2"},
			{Row: 9, Dev: 2, Native: 40, Cost: 8, Link: 1, Name: "p1"},
			{Row: 10, Dev: 2, Native: 4094, Cost: 9, Link: -1, Name: "p2", Tagged: []int{1, 40}},
			{Row: 11, Dev: 3, Native: 10, Cost: 10, Link: -1, Name: "p1"},
		},
		Links: []api.Link{{Row: 12, A: 1, B: 2}, {Row: 13, A: 4, B: 3}},
		Domains: []api.Domain{
			{Dev: 0, Vlan: 10, Vni: 5010, Irb: 0, Row: 14, Peers: []int{8, 3}},
			{Dev: 0, Vlan: 20, Irb: -1},
			{Dev: 0, Vlan: 30, Vni: 5030, Irb: 2, Row: 15, Peers: []int{4}},
			{Dev: 1, Vlan: 10, Vni: 5010, Irb: -1, Row: 16, Peers: []int{0, 8}},
			{Dev: 1, Vlan: 30, Vni: 5030, Irb: 1, Row: 17, Peers: []int{2}},
			{Dev: 2, Vlan: 1, Irb: -1},
			{Dev: 2, Vlan: 4094, Vni: 7, Irb: -1, Row: 18},
			{Dev: 3, Vlan: 10, Irb: 3},
			{Dev: 2, Vlan: 40, Vni: 5010, Irb: -1, Row: 19, Peers: []int{3, 0}},
		},
		Statics: []api.Static{
			{Row: 20, Domain: 0, Port: 1, Mac: 7},
			{Row: 21, Domain: 1, Port: 1, Mac: 8},
			{Row: 22, Domain: 6, Port: 5, Mac: 9},
			{Row: 23, Domain: 7, Port: 6},
		},
		Floods: []api.Flood{
			{Row: 24, Dev: 1, Vni: 5010, Addrs: []uint32{0x0a000003, 0x0a000001}},
			{Row: 25, Dev: 0, Vni: 5030, Addrs: []uint32{0x0a000002}},
			{Row: 26, Dev: 2, Vni: 5010, Addrs: []uint32{0x0a000001, 0x0a000002}},
			{Row: 27, Dev: 0, Vni: 5010, Addrs: []uint32{0x0a000002, 0x0a000003}},
			{Row: 28, Dev: 1, Vni: 5030, Addrs: []uint32{0x0a000001}},
		},
		Vrfs: []api.Vrf{
			{Row: 29, Dev: 0, Name: "red", Imports: []int{1, 2}, Exports: []int{1, 65535}},
			{Row: 30, Dev: 1, Name: "red", Imports: []int{7}},
			{Row: 31, Dev: 0, Name: "blue", Exports: []int{2, 9}},
			{Row: 32, Dev: 3, Name: "blue"},
			{Row: 33, Dev: 2, Name: "red", Imports: []int{1, 9}, Exports: []int{2}},
			{Row: 34, Dev: 2, Name: "green", Imports: []int{2, 3}},
		},
		Irbs: []api.Irb{
			{Row: 35, Domain: 0, Vrf: 2, Net: prefix(0x0a000001, 24)},
			{Row: 36, Domain: 4, Vrf: 1, Net: prefix(0x0a000101, 30)},
			{Row: 37, Domain: 2, Vrf: 0, Net: prefix(0x0b000001, 8)},
			{Row: 38, Domain: 7, Vrf: 3, Net: prefix(0x0a000301, 25)},
		},
	}
}

// met is a net of three devices of four VLANs, all domains of which have one VNI, and each of which is a peer of those of the others; each has an interface, whose address each other device has, too.
func met() api.Net {
	n := row(3)
	for d := range n.Devices {
		n.Devices[d].Vtep = uint32(d + 1)
		n.Vrfs = append(n.Vrfs, api.Vrf{Dev: d, Name: "red", Imports: []int{1, 2, 3}, Exports: []int{65535}})
		for vlan := range 4 {
			one := api.Domain{Dev: d, Vlan: vlan + 1, Vni: 1<<24 - 1, Irb: 11 - len(n.Domains)}
			for i := range 12 {
				if i/4 != d {
					one.Peers = append(one.Peers, i)
				}
			}
			n.Irbs = slices.Insert(n.Irbs, 0, api.Irb{Domain: len(n.Domains), Vrf: d, Net: prefix(uint32(vlan), 30)})
			n.Floods = append(n.Floods, api.Flood{Dev: d, Vni: vlan, Addrs: slices.Repeat([]uint32{7}, 16)})
			n.Domains = append(n.Domains, one)
		}
	}
	return n
}

// bare is a net whose devices, and VRFs, have no names.
func bare() api.Net {
	return api.Net{
		Devices: make([]api.Device, 2),
		Domains: []api.Domain{{Vlan: 1, Irb: -1}, {Dev: 1, Vlan: 1, Irb: -1}},
		Vrfs:    []api.Vrf{{}, {Dev: 1}},
	}
}

// goods are nets that may be.
func goods() map[string]api.Net {
	return map[string]api.Net{
		"nothing": {}, "the whole": whole(), "the net of peers": met(), "no names": bare(), "eight devices": row(8),
		"eight devices laid": laid(8, 6), "one interface": faced(laid(2, 2), 1, 0, prefix(0x0a000001, 24)),
		"no VRF": filled(0), "15 VRFs": filled(15), "16 VRFs": filled(mostVrfs),
	}
}

// drawn is a net of two to eight devices with domains of some of four VLANs, in any order; with VRFs of few names and few targets, some of which have a name that their device has already; with interfaces of few addresses, which other ones may have, too, and of prefixes of any size.
func drawn(draw func(below int) int) api.Net {
	n := row(2 + draw(7))
	for dev := range n.Devices {
		n.Devices[dev].Vtep = uint32(draw(2) * (dev + 1))
		for _, vlan := range []int{10, 20, 300, mostVlan} {
			if draw(5) > 0 {
				n.Domains = slices.Insert(n.Domains, draw(len(n.Domains)+1), api.Domain{Dev: dev, Vlan: vlan, Irb: -1, Row: draw(400)})
			}
		}
	}
	for range draw(mostVrfs + 1) {
		v := api.Vrf{Row: draw(400), Dev: draw(len(n.Devices)), Name: drawnWord(draw), Imports: drawnTargets(draw), Exports: drawnTargets(draw)}
		if saidVrfOf(n, v.Dev, v.Name) < 0 || draw(10) == 0 {
			n.Vrfs = append(n.Vrfs, v)
		}
	}
	for range draw(5 * len(n.Domains)) {
		v := draw(len(n.Vrfs) + 1)
		domain := draw(len(n.Domains))
		if v < len(n.Vrfs) && n.Vrfs[v].Dev == n.Domains[domain].Dev && n.Domains[domain].Irb < 0 {
			n = faced(n, domain, v, drawnPrefix(draw))
		}
	}
	return n
}

// drawnWord is one of few names.
func drawnWord(draw func(below int) int) string {
	return []string{"red", "blue", "green", "r0", "x"}[draw(5)]
}

// drawnTargets is a list of no targets or some, that rises.
func drawnTargets(draw func(below int) int) []int {
	var l []int
	for _, target := range []int{1, 2, 3, 9, 100, mostTarget} {
		if draw(3) == 0 {
			l = append(l, target)
		}
	}
	return l
}

// drawnPrefix is one of any size, most of which are small and lie close together.
func drawnPrefix(draw func(below int) int) api.Prefix {
	p := prefix(0x0a000000+uint32(draw(256)), 24+draw(7))
	switch draw(12) {
	case 0:
		p.Bits = 1 + draw(30)
	case 1:
		p.Addr = uint32(draw(1<<16))<<16 | uint32(draw(1<<16))
	}
	return p
}

func TestNetsOfTheTestsMayBe(t *testing.T) {
	for what, n := range goods() {
		if !names.Right(n) {
			t.Errorf("%s may not be", what)
		}
	}
	all, both := 0, 0
	for seed := range 500 {
		n := drawn(draws(uint64(seed)))
		if !names.Right(n) {
			t.Errorf("the net %d may not be: %+v", seed, n)
		}
		all += len(n.Irbs)
		if len(n.Irbs) > 0 && len(n.Irbs) < len(n.Domains) {
			both++
		}
	}
	if all < 1500 || both < 250 {
		t.Errorf("%d interfaces, %d nets with domains of each kind", all, both)
	}
}

// fault is a change of the whole net, that may not be with it.
type fault struct {
	what string
	turn func(n *api.Net)
}

// faults break what the parts of a net must be, each a rule of chapter 15.
func faults() []fault {
	l := []fault{
		{"nine devices", func(n *api.Net) { n.Devices = append(n.Devices, make([]api.Device, 5)...) }},
		{"a port of no device", func(n *api.Net) { n.Ports[6].Dev = 4 }},
		{"a port of the device -1", func(n *api.Net) { n.Ports[0].Dev = -1 }},
		{"a native VLAN below 0", func(n *api.Net) { n.Ports[0].Native = -1 }},
		{"a native VLAN above 4094", func(n *api.Net) { n.Ports[0].Native = 4095 }},
		{"a port without a VLAN", func(n *api.Net) { n.Ports[0].Native = 0 }},
		{"a VLAN without a domain", func(n *api.Net) { n.Ports[0].Native = 11 }},
		{"VLANs that fall", func(n *api.Net) { n.Ports[1].Tagged = []int{30, 10} }},
		{"a VLAN both native and tagged", func(n *api.Net) { n.Ports[1].Tagged = []int{10, 20} }},
		{"a port of no link", func(n *api.Net) { n.Ports[0].Link = 2 }},
		{"a port of another one's link", func(n *api.Net) { n.Ports[0].Link = 1 }},
		{"a link of no port", func(n *api.Net) { n.Links[1].A = 7 }},
		{"a link of a port without one", func(n *api.Net) { n.Ports[2].Link = -1 }},
		{"a link of one device", func(n *api.Net) { n.Ports[2].Dev = 0 }},
		{"a link too many", func(n *api.Net) { n.Links = append(n.Links, api.Link{A: 1, B: 2}) }},
		{"a domain of no device", func(n *api.Net) { n.Domains = append(n.Domains, api.Domain{Dev: 4, Vlan: 9, Irb: -1}) }},
		{"a domain of VLAN 0", func(n *api.Net) { n.Domains = append(n.Domains, api.Domain{Irb: -1}) }},
		{"a domain twice", func(n *api.Net) { n.Domains = append(n.Domains, api.Domain{Dev: 3, Vlan: 10, Irb: -1}) }},
		{"a VNI above its end", func(n *api.Net) { n.Domains[6].Vni = 1 << 24 }},
		{"a VNI below 0", func(n *api.Net) { n.Domains[6].Vni = -1 }},
		{"a domain of no interface", func(n *api.Net) { n.Domains[1].Irb = 4 }},
		{"a domain of another one's interface", func(n *api.Net) { n.Domains[1].Irb = 0 }},
		{"a peer that is no domain", func(n *api.Net) { n.Domains[2].Peers[0] = 9 }},
		{"a peer that does not have it", func(n *api.Net) { n.Domains[4].Peers = nil }},
		{"a peer twice", func(n *api.Net) { n.Domains[2].Peers = []int{4, 4} }},
		{"a peer of its own device", func(n *api.Net) {
			n.Domains[6].Vni, n.Domains[6].Peers, n.Domains[8].Peers = 5010, []int{8}, []int{3, 0, 6}
		}},
		{"peers of unlike VNIs", func(n *api.Net) { n.Domains[2].Vni = 5031 }},
		{"peers without a VNI", func(n *api.Net) { n.Domains[2].Vni, n.Domains[4].Vni = 0, 0 }},
		{"a peer without a VTEP", func(n *api.Net) { n.Devices[1].Vtep = 0 }},
		{"a static entry of no domain", func(n *api.Net) { n.Statics[0].Domain = 9 }},
		{"a static entry of no port", func(n *api.Net) { n.Statics[0].Port = -1 }},
		{"a static entry of a port without the VLAN", func(n *api.Net) { n.Statics[1].Port = 0 }},
		{"a flood list of no device", func(n *api.Net) { n.Floods[4].Dev = 4 }},
		{"a flood list of the device -1", func(n *api.Net) { n.Floods[4].Dev = -1 }},
		{"a flood list of 17", func(n *api.Net) { n.Floods[4].Addrs = make([]uint32, 17) }},
		{"a VRF of no device", func(n *api.Net) { n.Vrfs[0].Dev = -1 }},
		{"imports that fall", func(n *api.Net) { n.Vrfs[0].Imports = []int{2, 1} }},
		{"exports that fall", func(n *api.Net) { n.Vrfs[5].Exports = []int{7, 7} }},
		{"an import above its end", func(n *api.Net) { n.Vrfs[5].Imports[1] = 65536 }},
		{"17 imports", func(n *api.Net) { n.Vrfs[5].Imports = []int{1, 2, 3, 4, 5, 6, 7, 8, 9, 10, 11, 12, 13, 14, 15, 16, 17} }},
		{"an export of 0", func(n *api.Net) { n.Vrfs[3].Exports = []int{0} }},
		{"an interface of no domain", func(n *api.Net) { n.Irbs[3].Domain = 9 }},
		{"an interface of no VRF", func(n *api.Net) { n.Irbs[3].Vrf = 6 }},
		{"an interface of another device's VRF", func(n *api.Net) { n.Irbs[3].Vrf = 0 }},
		{"a second interface of a domain", func(n *api.Net) { n.Irbs = append(n.Irbs, api.Irb{Domain: 7, Vrf: 3, Net: prefix(99, 24)}) }},
		{"an interface of a domain that has none", func(n *api.Net) { n.Domains[7].Irb = -1 }},
		{"an interface of 0 bits", func(n *api.Net) { n.Irbs[0].Net.Bits = 0 }},
		{"an interface of 31 bits", func(n *api.Net) { n.Irbs[3].Net.Bits = 31 }},
	}
	return append(l,
		fault{"41 ports", func(n *api.Net) { n.Ports = append(n.Ports, slices.Repeat(n.Ports[6:7], 34)...) }},
		fault{"49 domains", func(n *api.Net) {
			for vlan := range 40 {
				n.Domains = append(n.Domains, api.Domain{Dev: 3, Vlan: 1000 + vlan, Irb: -1})
			}
		}},
		fault{"21 links", func(n *api.Net) { n.Links = append(n.Links, make([]api.Link, 19)...) }},
		fault{"65 static entries", func(n *api.Net) { n.Statics = slices.Repeat(n.Statics[:1], 65) }},
		fault{"49 flood lists", func(n *api.Net) { n.Floods = append(n.Floods, slices.Repeat(n.Floods[:1], 44)...) }},
		fault{"17 VRFs", func(n *api.Net) { n.Vrfs = append(n.Vrfs, make([]api.Vrf, 11)...) }},
		fault{"49 interfaces", func(n *api.Net) { n.Irbs = append(n.Irbs, make([]api.Irb, 45)...) }},
	)
}

func TestFaultsMayNotBe(t *testing.T) {
	for _, f := range faults() {
		n := whole()
		if f.turn(&n); names.Right(n) {
			t.Errorf("%s may be", f.what)
		}
	}
}

// lastThatFits is the first place of a list that fits, gone to from its end.
func lastThatFits[T any](l []T, fits func(item T) bool) int {
	place := -1
	for at, item := range slices.Backward(l) {
		if fits(item) {
			place = at
		}
	}
	return place
}

// saidVrfOf is the place of the first VRF of a device and a name.
func saidVrfOf(n api.Net, dev int, word string) int {
	return lastThatFits(n.Vrfs, func(v api.Vrf) bool { return v.Dev == dev && v.Name == word })
}

// saidHas is whether a prefix has an address: both lie in one block of as many addresses as the prefix has.
func saidHas(p api.Prefix, addr uint32) bool {
	block := uint64(1) << (32 - p.Bits)
	return uint64(p.Addr)/block == uint64(addr)/block
}

// said is what the chapter says of a line, to the call of a kind.
func said(n api.Net, l api.Line, kind int) (api.Net, api.Errno) {
	if !names.Right(n) || !stmt.Right(l) || l.Kind != kind {
		return api.Net{}, arg
	}
	dev := lastThatFits(n.Devices, func(d api.Device) bool { return d.Name == l.Dev })
	if dev < 0 {
		return api.Net{}, name
	}
	out := clone(n, 0)
	e := map[int]func(n *api.Net, dev int, l api.Line) api.Errno{kVrf: saidVrf, kIrb: saidIrb}[kind](&out, dev, l)
	if e != ok {
		return api.Net{}, e
	}
	return out, ok
}

func saidVrf(n *api.Net, dev int, l api.Line) api.Errno {
	if saidVrfOf(*n, dev, l.Name) >= 0 {
		return twice
	}
	if len(n.Vrfs) == mostVrfs {
		return big
	}
	n.Vrfs = append(n.Vrfs, api.Vrf{Row: l.Row, Dev: dev, Name: l.Name, Imports: slices.Clone(l.Imports), Exports: slices.Clone(l.Exports)})
	return ok
}

func saidIrb(n *api.Net, dev int, l api.Line) api.Errno {
	v := saidVrfOf(*n, dev, l.Name)
	if v < 0 {
		return name
	}
	domain := lastThatFits(n.Domains, func(d api.Domain) bool { return d.Dev == dev && d.Vlan == l.Vlan })
	if domain < 0 {
		return member
	}
	p := prefix(l.Addr, l.Bits)
	for _, there := range n.Irbs {
		far := n.Vrfs[there.Vrf].Dev != dev
		if there.Domain == domain || there.Net.Addr == l.Addr || far && saidHas(p, there.Net.Addr) || far && saidHas(there.Net, l.Addr) {
			return faces
		}
	}
	n.Irbs = append(n.Irbs, api.Irb{Row: l.Row, Domain: domain, Vrf: v, Net: p})
	n.Domains[domain].Irb = len(n.Irbs) - 1
	return ok
}

// saidLeaks is what the chapter says of two places of VRFs, by all pairs of targets.
func saidLeaks(n api.Net, from, to int) bool {
	if !names.Right(n) || min(from, to) < 0 || max(from, to) >= len(n.Vrfs) {
		return false
	}
	common := 0
	for _, target := range n.Vrfs[from].Exports {
		for _, wanted := range n.Vrfs[to].Imports {
			if target == wanted {
				common++
			}
		}
	}
	return from == to || n.Vrfs[from].Dev == n.Vrfs[to].Dev && common > 0
}

// saidRouter is what the chapter says of a domain and an address: of all interfaces the one of that domain whose address's four bytes stand behind 02 and 00.
func saidRouter(n api.Net, domain int, mac uint64) (int, bool) {
	if !names.Right(n) {
		return 0, false
	}
	for i, there := range n.Irbs {
		if there.Domain == domain && host(there.Net.Addr) == mac {
			return i, true
		}
	}
	return 0, false
}

// host is the address of a router, by its ip.
func host(ip uint32) uint64 { return 0x020000000000 + uint64(ip) }

// isPut asks that a line is put, and what net is told.
func isPut(t *testing.T, what string, n api.Net, l api.Line, want api.Net) api.Net {
	t.Helper()
	got, e := puts()[l.Kind](n, l)
	if e != ok {
		t.Fatalf("%s: %+v is refused with %d", what, l, e)
	}
	if !equal(got, want) {
		t.Fatalf("%s: of %+v the net told is\n%.3000v, not\n%.3000v", what, l, got, want)
	}
	if !names.Right(got) {
		t.Fatalf("%s: of %+v the net told may not be: %.3000v", what, l, got)
	}
	return got
}

// makesVrf asks that a line is put as a VRF of the device of a place, behind all others, and that nothing else changes.
func makesVrf(t *testing.T, what string, n api.Net, l api.Line, dev int) api.Net {
	t.Helper()
	want := clone(n, 0)
	want.Vrfs = append(want.Vrfs, api.Vrf{Row: l.Row, Dev: dev, Name: l.Name, Imports: l.Imports, Exports: l.Exports})
	return isPut(t, what, n, l, want)
}

// makesIrb asks that a line is put as an interface of the domain and the VRF of these places, behind all others and as the domain's, and that nothing else changes.
func makesIrb(t *testing.T, what string, n api.Net, l api.Line, domain, vrf int) api.Net {
	t.Helper()
	want := clone(n, 0)
	want.Domains[domain].Irb = len(n.Irbs)
	want.Irbs = append(want.Irbs, api.Irb{Row: l.Row, Domain: domain, Vrf: vrf, Net: api.Prefix{Addr: l.Addr, Bits: l.Bits}})
	return isPut(t, what, n, l, want)
}

// isRefused asks that the call of a kind refuses a line, and that no net is told with the error.
func isRefused(t *testing.T, what string, kind int, n api.Net, l api.Line, want api.Errno) {
	t.Helper()
	got, e := puts()[kind](n, l)
	if e != want {
		t.Fatalf("%s: the call of the kind %d tells %d of %+v, not %d", what, kind, e, l, want)
	}
	if !equal(got, api.Net{}) {
		t.Fatalf("%s: of %+v a net is told beside the error %d: %.2000v", what, l, e, got)
	}
}

// refuses asks that a line is refused by the call of its own kind.
func refuses(t *testing.T, what string, n api.Net, l api.Line, want api.Errno) {
	t.Helper()
	isRefused(t, what, l.Kind, n, l, want)
}

// isSaid asks that of a net and a line the call of a kind tells what the chapter says.
func isSaid(t *testing.T, what string, kind int, n api.Net, l api.Line) {
	t.Helper()
	if want, e := said(n, l, kind); e != ok {
		isRefused(t, what, kind, n, l, e)
	} else {
		isPut(t, what, n, l, want)
	}
}

// leaks asks whether one VRF leaks into another one.
func leaks(t *testing.T, what string, n api.Net, from, to int, want bool) {
	t.Helper()
	if got := vrfs.Leaks(n, from, to); got != want {
		t.Fatalf("%s: that the VRF %d leaks into %d is %v, not %v", what, from, to, got, want)
	}
}

// routes asks which interface of a domain an address leads to; of -1 there is none, and nothing is told beside it.
func routes(t *testing.T, what string, n api.Net, domain int, mac uint64, want int) {
	t.Helper()
	got, there := vrfs.Router(n, domain, mac)
	if there != (want >= 0) || got != max(want, 0) {
		t.Fatalf("%s: in the domain %d %x is the interface %d, %v, not %d", what, domain, mac, got, there, want)
	}
}

// isRouted asks that of a domain and an address Router tells what the chapter says.
func isRouted(t *testing.T, what string, n api.Net, domain int, mac uint64) bool {
	t.Helper()
	want, there := saidRouter(n, domain, mac)
	if !there {
		want = -1
	}
	routes(t, what, n, domain, mac, want)
	return there
}

// anyPlaces are places of a list of so many, the ones beside them, and numbers far off.
func anyPlaces(count int) []int {
	l := []int{least, -1 << 32, -2, -1}
	for i := range count + 2 {
		l = append(l, i)
	}
	return append(l, 48, 1<<16, 1<<32, most)
}

// lists are all lists of a net or a line, and those of their items.
func lists(v reflect.Value) []reflect.Value {
	var l []reflect.Value
	switch v.Kind() {
	case reflect.Struct:
		for i := range v.NumField() {
			l = append(l, lists(v.Field(i))...)
		}
	case reflect.Slice:
		l = append(l, v)
		for i := range v.Len() {
			l = append(l, lists(v.Index(i))...)
		}
	}
	return l
}

// room is all that lies in a list's memory, behind its end too.
func room(l reflect.Value) reflect.Value { return l.Slice(0, l.Cap()) }

// spoil writes into all lists of a net or a line, and behind their ends, from within outwards.
func spoil(pointer any) {
	all := lists(reflect.ValueOf(pointer).Elem())
	for _, l := range slices.Backward(all) {
		for i := range l.Cap() {
			fill(room(l).Index(i))
		}
	}
}

// fill writes something everywhere.
func fill(v reflect.Value) {
	switch v.Kind() {
	case reflect.Struct:
		for i := range v.NumField() {
			fill(v.Field(i))
		}
	case reflect.Slice:
		v.Set(reflect.MakeSlice(v.Type(), 2, 3))
		for i := range 2 {
			fill(v.Index(i))
		}
	case reflect.String:
		v.SetString("junk")
	default:
		v.Set(reflect.ValueOf(77).Convert(v.Type()))
	}
}

// clone is a net, or a part of one, or a line, of memory of its own, whose lists have so much spare room, in which something stands.
func clone[T any](one T, spare int) T {
	return cloneOf(reflect.ValueOf(one), spare).Interface().(T)
}

func cloneOf(v reflect.Value, spare int) reflect.Value {
	out := reflect.New(v.Type()).Elem()
	out.Set(v)
	switch v.Kind() {
	case reflect.Struct:
		for i := range v.NumField() {
			out.Field(i).Set(cloneOf(v.Field(i), spare))
		}
	case reflect.Slice:
		all := reflect.MakeSlice(v.Type(), v.Len()+spare, v.Len()+spare)
		for i := range all.Len() {
			if i < v.Len() {
				all.Index(i).Set(cloneOf(v.Index(i), spare))
			} else {
				fill(all.Index(i))
			}
		}
		out.Set(all.Slice(0, v.Len()))
	}
	return out
}

// rooms is a net, or a line, of memory of its own, whose lists have all that stood in the memory of the one's, behind their ends too.
func rooms[T any](one T) T {
	return roomsOf(reflect.ValueOf(one)).Interface().(T)
}

func roomsOf(v reflect.Value) reflect.Value {
	out := reflect.New(v.Type()).Elem()
	out.Set(v)
	switch v.Kind() {
	case reflect.Struct:
		for i := range v.NumField() {
			out.Field(i).Set(roomsOf(v.Field(i)))
		}
	case reflect.Slice:
		all := reflect.MakeSlice(v.Type(), v.Cap(), v.Cap())
		for i := range v.Cap() {
			all.Index(i).Set(roomsOf(room(v).Index(i)))
		}
		out.Set(all)
	}
	return out
}

// equal tells whether two nets, or two lines, are alike in all; nil and empty lists are.
func equal[T any](a, b T) bool { return reflect.DeepEqual(clone(a, 0), clone(b, 0)) }

// draws is a row of numbers made from a seed.
func draws(seed uint64) func(below int) int {
	return func(below int) int {
		seed = seed*6364136223846793005 + 1442695040888963407
		return int(seed>>33) % below
	}
}
