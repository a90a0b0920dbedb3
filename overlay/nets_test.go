package overlay_test

import (
	"math"
	"reflect"
	"slices"
	"strconv"
	"testing"

	"paling/api"
	"paling/names"
	"paling/overlay"
	"paling/stmt"
)

// What the document's limits are, and the errors that are told here, in numbers of the tests' own.
const (
	mostFloods = 48
	mostVni    = 1<<24 - 1
	mostVlan   = 4094

	ok     api.Errno = 0
	arg    api.Errno = 2
	big    api.Errno = 3
	twice  api.Errno = 30
	name   api.Errno = 31
	member api.Errno = 32
	noVtep api.Errno = 35
	floods api.Errno = 36
)

// Kinds of lines.
const (
	kVtep  = 5
	kVni   = 6
	kFlood = 7
)

// Ends of a type's numbers.
const (
	least = math.MinInt
	most  = math.MaxInt
)

// vtep is the line of a VTEP.
func vtep(dev string, addr uint32) api.Line {
	return api.Line{Row: 90, Kind: kVtep, Dev: dev, Addr: addr}
}

// vni is the line of a VNI.
func vni(dev string, vlan, num int) api.Line {
	return api.Line{Row: 90, Kind: kVni, Dev: dev, Vlan: vlan, Num: num}
}

// flood is the line of a flood list.
func flood(dev string, num int, addrs ...uint32) api.Line {
	return api.Line{Row: 90, Kind: kFlood, Dev: dev, Num: num, Addrs: addrs}
}

// puts are the calls that put lines, by the kinds that they take.
func puts() map[int]func(n api.Net, l api.Line) (api.Net, api.Errno) {
	return map[int]func(n api.Net, l api.Line) (api.Net, api.Errno){kVtep: overlay.Vtep, kVni: overlay.Vni, kFlood: overlay.Flood}
}

// row is a net of so many devices, sw1 and so on, without anything else.
func row(count int) api.Net {
	var n api.Net
	for i := range count {
		n.Devices = append(n.Devices, api.Device{Row: i + 1, Priority: 4096 * i, Name: "sw" + strconv.Itoa(i+1), Mac: uint64(i + 1)})
	}
	return n
}

// laid is a row of so many devices with the VTEPs 1, 2 and so on, each of which has a domain of VLAN 10 and the VNI 5; domains and devices have the same places.
func laid(count int) api.Net {
	n := row(count)
	for dev := range n.Devices {
		n.Devices[dev].Vtep = uint32(dev + 1)
		n.Domains = append(n.Domains, api.Domain{Dev: dev, Vlan: 10, Vni: 5, Irb: -1, Row: 20 + dev})
	}
	return n
}

// with is a laid net with these flood lists of VNI 5, of the device 0, 1 and so on, with the rows 100, 101 and so on; a nil list is none.
func with(count int, addrs ...[]uint32) api.Net {
	n := laid(count)
	for dev, l := range addrs {
		if l != nil {
			n.Floods = append(n.Floods, api.Flood{Row: 100 + dev, Dev: dev, Vni: 5, Addrs: l})
		}
	}
	return n
}

// to is a flood list of these addresses.
func to(addrs ...uint32) []uint32 { return append([]uint32{}, addrs...) }

// full is a laid net whose flood lists are those of one mesh of all of its devices, each in rising order.
func full(count int) api.Net {
	n := laid(count)
	for dev := range count {
		f := api.Flood{Row: 100 + dev, Dev: dev, Vni: 5}
		for other := range count {
			if other != dev {
				f.Addrs = append(f.Addrs, uint32(other+1))
			}
		}
		n.Floods = append(n.Floods, f)
	}
	return n
}

// listed is a net of two devices, sw1 and sw2, with the VTEPs 1 and 2, each of which has the VLAN 10 of VNI 5, 20 of VNI 6, and 30 without one; it has so many flood lists, of sw2, of VNIs that no domain has.
func listed(count int) api.Net {
	n := row(2)
	for dev := range n.Devices {
		n.Devices[dev].Vtep = uint32(dev + 1)
		n.Domains = append(n.Domains, api.Domain{Dev: dev, Vlan: 10, Vni: 5, Irb: -1}, api.Domain{Dev: dev, Vlan: 20, Vni: 6, Irb: -1}, api.Domain{Dev: dev, Vlan: 30, Irb: -1})
	}
	for i := range count {
		n.Floods = append(n.Floods, api.Flood{Row: 30 + i, Dev: 1, Vni: 1000 + i, Addrs: []uint32{1}})
	}
	return n
}

// whole is a net that has all there is: devices, links with access ports and with trunks, a mesh of three and one of two, whose peers stand in other orders than its flood lists have, static entries, VRFs and interfaces. Its device d has no VTEP, and its domains 1, 5 and 7, of the devices a, c and d, have no VNI; of the VNI 7 of c there is no flood list.
func whole() api.Net {
	return api.Net{
		Devices: []api.Device{
			{Row: 1, Priority: 4096, Name: "a", Mac: 1, Vtep: 0x0a000001},
			{Row: 2, Priority: 8192, Name: "b", Mac: 2, Vtep: 0x0a000002},
			{Row: 3, Name: "c", Mac: 3, Vtep: 0x0a000003},
			{Row: 4, Name: "d", Mac: 0xfeffffffffff},
		},
		Ports: []api.Port{
			{Row: 5, Dev: 0, Native: 10, Cost: 4, Link: -1, Name: "p1"},
			{Row: 6, Dev: 0, Native: 20, Cost: 5, Link: 0, Name: "p2", Tagged: []int{10, 30}},
			{Row: 7, Dev: 1, Cost: 6, Link: 0, Name: "p1", Tagged: []int{10, 30}},
			{Row: 8, Dev: 1, Native: 30, Cost: 7, Link: 1, Name: "p2"},
			{Row: 9, Dev: 2, Native: 40, Cost: 8, Link: 1, Name: "p1"},
			{Row: 10, Dev: 2, Native: 4094, Cost: 9, Link: -1, Name: "p2", Tagged: []int{1, 40}},
			{Row: 11, Dev: 3, Native: 10, Cost: 10, Link: -1, Name: "p1"},
		},
		Links: []api.Link{{Row: 12, A: 1, B: 2}, {Row: 13, A: 4, B: 3}},
		Domains: []api.Domain{
			{Dev: 0, Vlan: 10, Vni: 5010, Irb: 0, Row: 14, Peers: []int{8, 3}},
			{Dev: 0, Vlan: 20, Irb: -1},
			{Dev: 0, Vlan: 30, Vni: 5030, Irb: 2, Row: 15, Peers: []int{4}},
			{Dev: 1, Vlan: 10, Vni: 5010, Irb: -1, Row: 16, Peers: []int{0, 8}},
			{Dev: 1, Vlan: 30, Vni: 5030, Irb: 1, Row: 17, Peers: []int{2}},
			{Dev: 2, Vlan: 1, Irb: -1},
			{Dev: 2, Vlan: 4094, Vni: 7, Irb: -1, Row: 18},
			{Dev: 3, Vlan: 10, Irb: 3},
			{Dev: 2, Vlan: 40, Vni: 5010, Irb: -1, Row: 19, Peers: []int{3, 0}},
		},
		Statics: []api.Static{
			{Row: 20, Domain: 0, Port: 1, Mac: 7},
			{Row: 21, Domain: 1, Port: 1, Mac: 8},
			{Row: 22, Domain: 6, Port: 5, Mac: 9},
			{Row: 23, Domain: 7, Port: 6},
		},
		Floods: []api.Flood{
			{Row: 24, Dev: 1, Vni: 5010, Addrs: []uint32{0x0a000003, 0x0a000001}},
			{Row: 25, Dev: 0, Vni: 5030, Addrs: []uint32{0x0a000002}},
			{Row: 26, Dev: 2, Vni: 5010, Addrs: []uint32{0x0a000001, 0x0a000002}},
			{Row: 27, Dev: 0, Vni: 5010, Addrs: []uint32{0x0a000002, 0x0a000003}},
			{Row: 28, Dev: 1, Vni: 5030, Addrs: []uint32{0x0a000001}},
		},
		Vrfs: []api.Vrf{
			{Row: 29, Dev: 0, Name: "red", Imports: []int{1, 2}, Exports: []int{1, 65535}},
			{Row: 30, Dev: 1, Name: "red", Imports: []int{7}},
			{Row: 31, Dev: 0, Name: "blue", Exports: []int{9}},
			{Row: 32, Dev: 3, Name: "blue"},
		},
		Irbs: []api.Irb{
			{Row: 33, Domain: 0, Vrf: 2, Net: api.Prefix{Addr: 0x0a000001, Bits: 24}},
			{Row: 34, Domain: 4, Vrf: 1, Net: api.Prefix{Addr: 0x0a000101, Bits: 30}},
			{Row: 35, Domain: 2, Vrf: 0, Net: api.Prefix{Addr: 0x0a000201, Bits: 1}},
			{Row: 36, Domain: 7, Vrf: 3, Net: api.Prefix{Addr: 0x0a000301, Bits: 16}},
		},
	}
}

// met is a net of three devices of four VLANs, all domains of which have one VNI, and each of which is a peer of those of the others; its flood lists are of other VNIs.
func met() api.Net {
	n := row(3)
	for d := range n.Devices {
		n.Devices[d].Vtep = uint32(d + 1)
		n.Vrfs = append(n.Vrfs, api.Vrf{Dev: d, Name: "red", Imports: []int{1, 2, 3}, Exports: []int{65535}})
		for vlan := range 4 {
			one := api.Domain{Dev: d, Vlan: vlan + 1, Vni: mostVni, Irb: len(n.Domains)}
			for i := range 12 {
				if i/4 != d {
					one.Peers = append(one.Peers, i)
				}
			}
			n.Irbs = append(n.Irbs, api.Irb{Domain: len(n.Domains), Vrf: d, Net: api.Prefix{Addr: uint32(vlan), Bits: 30}})
			n.Floods = append(n.Floods, api.Flood{Dev: d, Vni: vlan, Addrs: slices.Repeat([]uint32{7}, 16)})
			n.Domains = append(n.Domains, one)
		}
	}
	return n
}

// bare is a net whose devices have no names, and no VTEPs.
func bare() api.Net {
	return api.Net{Devices: make([]api.Device, 2), Domains: []api.Domain{{Vlan: 1, Irb: -1}, {Dev: 1, Vlan: 1, Irb: -1}}}
}

// goods are nets that may be.
func goods() map[string]api.Net {
	return map[string]api.Net{
		"nothing": {}, "the whole": whole(), "the net of peers": met(), "no names": bare(), "eight devices": row(8),
		"eight devices laid": laid(8), "a mesh of two": full(2), "a mesh of three": full(3), "a mesh of eight": full(8),
		"no flood list": listed(0), "47 flood lists": listed(47), "48 flood lists": listed(mostFloods),
	}
}

// drawn is a net of two to eight devices, of which some have no VTEP, or one that another one has, too; with domains of four VLANs in any order and of few VNIs; with flood lists that are those of meshes, or that would be but for a few changes; some domains are peers already.
func drawn(draw func(below int) int) api.Net {
	n := row(2 + draw(7))
	for dev := range n.Devices {
		if draw(10) > 0 {
			n.Devices[dev].Vtep = uint32(dev + 1)
		}
		if draw(60) == 0 {
			n.Devices[dev].Vtep = 1
		}
		for i, vlan := range []int{10, 20, 300, mostVlan} {
			d := api.Domain{Dev: dev, Vlan: vlan, Irb: -1, Row: draw(400)}
			if draw(6) > 0 {
				d.Vni = []int{5, 5010, mostVni, 0}[i]
			}
			if draw(60) == 0 {
				d.Vni = 5
			}
			n.Domains = slices.Insert(n.Domains, draw(len(n.Domains)+1), d)
		}
	}
	for _, num := range []int{5, 5010, mostVni} {
		n.Floods = append(n.Floods, meshed(n, num, draw)...)
	}
	shuffle(n.Floods, draw)
	for i := range n.Floods {
		n.Floods[i].Row = draw(400)
	}
	if draw(2) == 0 {
		for range 1 + draw(2) {
			mar(&n, draw)
		}
	}
	for range draw(2) * draw(20) {
		befriend(&n, draw(len(n.Domains)), draw(len(n.Domains)))
	}
	return n
}

// meshed are flood lists of one or two meshes of all devices of a net that have a VTEP and a domain of a VNI, each list in any order.
func meshed(n api.Net, num int, draw func(below int) int) []api.Flood {
	var groups [2][]int
	for dev, d := range n.Devices {
		if d.Vtep != 0 && saidFind(n, dev, num) >= 0 {
			at := draw(10) / 8
			groups[at] = append(groups[at], dev)
		}
	}
	var l []api.Flood
	for _, group := range groups {
		for _, dev := range group {
			f := api.Flood{Dev: dev, Vni: num}
			for _, other := range group {
				if other != dev {
					f.Addrs = append(f.Addrs, n.Devices[other].Vtep)
				}
			}
			shuffle(f.Addrs, draw)
			l = append(l, f)
		}
	}
	return l
}

// mar changes something of what a net's meshes are made of.
func mar(n *api.Net, draw func(below int) int) {
	if len(n.Floods) == 0 {
		return
	}
	f := &n.Floods[draw(len(n.Floods))]
	switch draw(10) {
	case 0, 1:
		f.Addrs = append(f.Addrs, uint32(draw(10)))
	case 2:
		f.Addrs = slices.Insert(f.Addrs, 0, n.Devices[f.Dev].Vtep)
	case 3:
		if len(f.Addrs) > 0 {
			f.Addrs[draw(len(f.Addrs))] = uint32(draw(10))
		}
	case 4:
		if len(f.Addrs) > 0 {
			f.Addrs = append(f.Addrs, f.Addrs[draw(len(f.Addrs))])
		}
	case 5:
		n.Floods = append(n.Floods, clone(*f, 0))
	case 6:
		f.Vni = []int{0, 5, 5010, -5}[draw(4)]
	case 7:
		n.Domains[draw(len(n.Domains))].Vni = []int{0, 5, 5010}[draw(3)]
	case 8:
		f.Addrs = nil
	case 9:
		n.Devices[f.Dev].Vtep = 0
	}
}

// befriend makes two domains of a net peers, if they may be.
func befriend(n *api.Net, a, b int) {
	one, other := &n.Domains[a], &n.Domains[b]
	if one.Dev != other.Dev && one.Vni != 0 && one.Vni == other.Vni && n.Devices[one.Dev].Vtep != 0 && n.Devices[other.Dev].Vtep != 0 && !slices.Contains(one.Peers, b) {
		one.Peers, other.Peers = append(one.Peers, b), append(other.Peers, a)
	}
}

func TestNetsOfTheTestsMayBe(t *testing.T) {
	for what, n := range goods() {
		if !names.Right(n) {
			t.Errorf("%s may not be", what)
		}
	}
	for seed := range 500 {
		if n := drawn(draws(uint64(seed))); !names.Right(n) {
			t.Errorf("the net %d may not be: %+v", seed, n)
		}
	}
}

// fault is a change of the whole net, that may not be with it.
type fault struct {
	what string
	turn func(n *api.Net)
}

// faults break what the parts of a net must be, each a rule of chapter 15.
func faults() []fault {
	l := []fault{
		{"nine devices", func(n *api.Net) { n.Devices = append(n.Devices, make([]api.Device, 5)...) }},
		{"a port of no device", func(n *api.Net) { n.Ports[6].Dev = 4 }},
		{"a port of the device -1", func(n *api.Net) { n.Ports[0].Dev = -1 }},
		{"a native VLAN below 0", func(n *api.Net) { n.Ports[0].Native = -1 }},
		{"a native VLAN above 4094", func(n *api.Net) { n.Ports[0].Native = 4095 }},
		{"a port without a VLAN", func(n *api.Net) { n.Ports[0].Native = 0 }},
		{"a VLAN without a domain", func(n *api.Net) { n.Ports[0].Native = 11 }},
		{"VLANs that fall", func(n *api.Net) { n.Ports[1].Tagged = []int{30, 10} }},
		{"a VLAN both native and tagged", func(n *api.Net) { n.Ports[1].Tagged = []int{10, 20} }},
		{"a port of no link", func(n *api.Net) { n.Ports[0].Link = 2 }},
		{"a port of another one's link", func(n *api.Net) { n.Ports[0].Link = 1 }},
		{"a link of no port", func(n *api.Net) { n.Links[1].A = 7 }},
		{"a link of a port without one", func(n *api.Net) { n.Ports[2].Link = -1 }},
		{"a link of one device", func(n *api.Net) { n.Ports[2].Dev = 0 }},
		{"a link too many", func(n *api.Net) { n.Links = append(n.Links, api.Link{A: 1, B: 2}) }},
		{"a domain of no device", func(n *api.Net) { n.Domains = append(n.Domains, api.Domain{Dev: 4, Vlan: 9, Irb: -1}) }},
		{"a domain of VLAN 0", func(n *api.Net) { n.Domains = append(n.Domains, api.Domain{Irb: -1}) }},
		{"a domain twice", func(n *api.Net) { n.Domains = append(n.Domains, api.Domain{Dev: 3, Vlan: 10, Irb: -1}) }},
		{"a VNI above its end", func(n *api.Net) { n.Domains[6].Vni = 1 << 24 }},
		{"a VNI below 0", func(n *api.Net) { n.Domains[6].Vni = -1 }},
		{"a domain of no interface", func(n *api.Net) { n.Domains[1].Irb = 4 }},
		{"a domain of another one's interface", func(n *api.Net) { n.Domains[1].Irb = 0 }},
		{"a peer that is no domain", func(n *api.Net) { n.Domains[2].Peers[0] = 9 }},
		{"a peer that does not have it", func(n *api.Net) { n.Domains[4].Peers = nil }},
		{"a peer twice", func(n *api.Net) { n.Domains[2].Peers = []int{4, 4} }},
		{"a peer of its own device", func(n *api.Net) {
			n.Domains[6].Vni, n.Domains[6].Peers, n.Domains[8].Peers = 5010, []int{8}, []int{3, 0, 6}
		}},
		{"peers of unlike VNIs", func(n *api.Net) { n.Domains[2].Vni = 5031 }},
		{"peers without a VNI", func(n *api.Net) { n.Domains[2].Vni, n.Domains[4].Vni = 0, 0 }},
		{"a peer without a VTEP", func(n *api.Net) { n.Devices[1].Vtep = 0 }},
		{"a static entry of no domain", func(n *api.Net) { n.Statics[0].Domain = 9 }},
		{"a static entry of no port", func(n *api.Net) { n.Statics[0].Port = -1 }},
		{"a static entry of a port without the VLAN", func(n *api.Net) { n.Statics[1].Port = 0 }},
		{"a flood list of no device", func(n *api.Net) { n.Floods[4].Dev = 4 }},
		{"a flood list of the device -1", func(n *api.Net) { n.Floods[4].Dev = -1 }},
		{"a flood list of 17", func(n *api.Net) { n.Floods[4].Addrs = make([]uint32, 17) }},
		{"a VRF of no device", func(n *api.Net) { n.Vrfs[0].Dev = -1 }},
		{"imports that fall", func(n *api.Net) { n.Vrfs[0].Imports = []int{2, 1} }},
		{"an export of 0", func(n *api.Net) { n.Vrfs[3].Exports = []int{0} }},
		{"an interface of no domain", func(n *api.Net) { n.Irbs[3].Domain = 9 }},
		{"an interface of no VRF", func(n *api.Net) { n.Irbs[3].Vrf = 4 }},
		{"an interface of another device's VRF", func(n *api.Net) { n.Irbs[3].Vrf = 0 }},
		{"an interface of 31 bits", func(n *api.Net) { n.Irbs[3].Net.Bits = 31 }},
	}
	return append(l,
		fault{"41 ports", func(n *api.Net) { n.Ports = append(n.Ports, slices.Repeat(n.Ports[6:7], 34)...) }},
		fault{"49 domains", func(n *api.Net) {
			for vlan := range 40 {
				n.Domains = append(n.Domains, api.Domain{Dev: 3, Vlan: 1000 + vlan, Irb: -1})
			}
		}},
		fault{"21 links", func(n *api.Net) { n.Links = append(n.Links, make([]api.Link, 19)...) }},
		fault{"65 static entries", func(n *api.Net) { n.Statics = slices.Repeat(n.Statics[:1], 65) }},
		fault{"49 flood lists", func(n *api.Net) { n.Floods = append(n.Floods, slices.Repeat(n.Floods[:1], 44)...) }},
		fault{"17 VRFs", func(n *api.Net) { n.Vrfs = append(n.Vrfs, make([]api.Vrf, 13)...) }},
		fault{"49 interfaces", func(n *api.Net) { n.Irbs = append(n.Irbs, make([]api.Irb, 45)...) }},
	)
}

func TestFaultsMayNotBe(t *testing.T) {
	for _, f := range faults() {
		n := whole()
		if f.turn(&n); names.Right(n) {
			t.Errorf("%s may be", f.what)
		}
	}
}

// lastThatFits is the first place of a list that fits, gone to from its end.
func lastThatFits[T any](l []T, fits func(item T) bool) int {
	place := -1
	for at, item := range slices.Backward(l) {
		if fits(item) {
			place = at
		}
	}
	return place
}

// saidFind is what the chapter says of a device's VNI.
func saidFind(n api.Net, dev, num int) int {
	if num == 0 || !names.Right(n) {
		return -1
	}
	return lastThatFits(n.Domains, func(d api.Domain) bool { return d.Dev == dev && d.Vni == num })
}

// saidList is the place of the first flood list of a device and a VNI.
func saidList(n api.Net, dev, num int) int {
	return lastThatFits(n.Floods, func(f api.Flood) bool { return f.Dev == dev && f.Vni == num })
}

// saidDevice is the place of the first device of an address, which is not 0.
func saidDevice(n api.Net, addr uint32) int {
	if addr == 0 {
		return -1
	}
	return lastThatFits(n.Devices, func(d api.Device) bool { return d.Vtep == addr })
}

// said is what the chapter says of a line, to the call of a kind.
func said(n api.Net, l api.Line, kind int) (api.Net, api.Errno) {
	if !names.Right(n) || !stmt.Right(l) || l.Kind != kind {
		return api.Net{}, arg
	}
	dev := lastThatFits(n.Devices, func(d api.Device) bool { return d.Name == l.Dev })
	if dev < 0 {
		return api.Net{}, name
	}
	out := clone(n, 0)
	e := map[int]func(n *api.Net, dev int, l api.Line) api.Errno{kVtep: saidVtep, kVni: saidVni, kFlood: saidFlood}[kind](&out, dev, l)
	if e != ok {
		return api.Net{}, e
	}
	return out, ok
}

func saidVtep(n *api.Net, dev int, l api.Line) api.Errno {
	for i, d := range n.Devices {
		if i == dev && d.Vtep != 0 || i != dev && d.Vtep == l.Addr {
			return twice
		}
	}
	n.Devices[dev].Vtep = l.Addr
	return ok
}

func saidVni(n *api.Net, dev int, l api.Line) api.Errno {
	domain := lastThatFits(n.Domains, func(d api.Domain) bool { return d.Dev == dev && d.Vlan == l.Vlan })
	if n.Devices[dev].Vtep == 0 {
		return noVtep
	}
	if domain < 0 {
		return member
	}
	if n.Domains[domain].Vni != 0 || saidFind(*n, dev, l.Num) >= 0 {
		return twice
	}
	n.Domains[domain].Vni, n.Domains[domain].Row = l.Num, l.Row
	return ok
}

func saidFlood(n *api.Net, dev int, l api.Line) api.Errno {
	if saidFind(*n, dev, l.Num) < 0 {
		return name
	}
	if saidList(*n, dev, l.Num) >= 0 {
		return twice
	}
	for _, addr := range l.Addrs {
		if addr == n.Devices[dev].Vtep {
			return floods
		}
	}
	if len(n.Floods) == mostFloods {
		return big
	}
	n.Floods = append(n.Floods, api.Flood{Row: l.Row, Dev: dev, Vni: l.Num, Addrs: slices.Clone(l.Addrs)})
	return ok
}

// saidAgrees is whether a flood list agrees, by what each other one lacks.
func saidAgrees(n api.Net, f api.Flood) bool {
	agrees := saidFind(n, f.Dev, f.Vni) >= 0
	for _, addr := range f.Addrs {
		dev := saidDevice(n, addr)
		at := saidList(n, dev, f.Vni)
		if addr == 0 || dev < 0 || saidFind(n, dev, f.Vni) < 0 || at < 0 {
			agrees = false
			continue
		}
		lacks := map[uint32]bool{}
		for _, other := range f.Addrs {
			lacks[other] = true
		}
		delete(lacks, addr)
		lacks[n.Devices[f.Dev].Vtep] = true
		for _, there := range n.Floods[at].Addrs {
			delete(lacks, there)
		}
		agrees = agrees && len(lacks) == 0
	}
	return agrees
}

// saidMesh is what the chapter says of a net's meshes.
func saidMesh(n api.Net) (api.Net, int, api.Errno) {
	if !names.Right(n) {
		return api.Net{}, 0, arg
	}
	for _, f := range n.Floods {
		if !saidAgrees(n, f) {
			return api.Net{}, f.Row, floods
		}
	}
	out := clone(n, 0)
	for i, d := range n.Domains {
		out.Domains[i].Peers = []int{}
		if at := saidList(n, d.Dev, d.Vni); d.Vni != 0 && at >= 0 {
			for _, addr := range n.Floods[at].Addrs {
				out.Domains[i].Peers = append(out.Domains[i].Peers, saidFind(n, saidDevice(n, addr), d.Vni))
			}
		}
	}
	if !names.Right(out) {
		return api.Net{}, 0, floods
	}
	return out, 0, ok
}

// isPut asks that a line is put, and what net is told.
func isPut(t *testing.T, what string, n api.Net, l api.Line, want api.Net) api.Net {
	t.Helper()
	got, e := puts()[l.Kind](n, l)
	if e != ok {
		t.Fatalf("%s: %+v is refused with %d", what, l, e)
	}
	if !equal(got, want) {
		t.Fatalf("%s: of %+v the net told is\n%.3000v, not\n%.3000v", what, l, got, want)
	}
	if !names.Right(got) {
		t.Fatalf("%s: of %+v the net told may not be: %.3000v", what, l, got)
	}
	return got
}

// makes asks that a line is put, and that nothing but what is turned changes.
func makes(t *testing.T, what string, n api.Net, l api.Line, turn func(n *api.Net)) api.Net {
	t.Helper()
	want := clone(n, 0)
	turn(&want)
	return isPut(t, what, n, l, want)
}

// makesVtep asks that a line's address gets the VTEP of the device of a place.
func makesVtep(t *testing.T, what string, n api.Net, l api.Line, dev int) api.Net {
	t.Helper()
	return makes(t, what, n, l, func(n *api.Net) { n.Devices[dev].Vtep = l.Addr })
}

// makesVni asks that a line's number gets the VNI of the domain of a place, and its row that one's.
func makesVni(t *testing.T, what string, n api.Net, l api.Line, domain int) api.Net {
	t.Helper()
	return makes(t, what, n, l, func(n *api.Net) { n.Domains[domain].Vni, n.Domains[domain].Row = l.Num, l.Row })
}

// makesFlood asks that a line is put as a flood list of the device of a place, behind all others.
func makesFlood(t *testing.T, what string, n api.Net, l api.Line, dev int) api.Net {
	t.Helper()
	return makes(t, what, n, l, func(n *api.Net) {
		n.Floods = append(n.Floods, api.Flood{Row: l.Row, Dev: dev, Vni: l.Num, Addrs: l.Addrs})
	})
}

// isRefused asks that the call of a kind refuses a line, and that no net is told with the error.
func isRefused(t *testing.T, what string, kind int, n api.Net, l api.Line, want api.Errno) {
	t.Helper()
	got, e := puts()[kind](n, l)
	if e != want {
		t.Fatalf("%s: the call of the kind %d tells %d of %+v, not %d", what, kind, e, l, want)
	}
	if !equal(got, api.Net{}) {
		t.Fatalf("%s: of %+v a net is told beside the error %d: %.2000v", what, l, e, got)
	}
}

// refuses asks that a line is refused by the call of its own kind.
func refuses(t *testing.T, what string, n api.Net, l api.Line, want api.Errno) {
	t.Helper()
	isRefused(t, what, l.Kind, n, l, want)
}

// isSaid asks that of a net and a line the call of a kind tells what the chapter says.
func isSaid(t *testing.T, what string, kind int, n api.Net, l api.Line) {
	t.Helper()
	if want, e := said(n, l, kind); e != ok {
		isRefused(t, what, kind, n, l, e)
	} else {
		isPut(t, what, n, l, want)
	}
}

// isMeshed asks which peers the domains of a net get, each list in its order.
func isMeshed(t *testing.T, what string, n api.Net, peers map[int][]int) api.Net {
	t.Helper()
	want := clone(n, 0)
	for i := range want.Domains {
		want.Domains[i].Peers = peers[i]
	}
	got, at, e := overlay.Mesh(n)
	if e != ok || at != 0 {
		t.Fatalf("%s: the error %d of the row %d is told", what, e, at)
	}
	if !equal(got, want) {
		t.Fatalf("%s: the net told is\n%.3000v, not\n%.3000v", what, got, want)
	}
	if !names.Right(got) {
		t.Fatalf("%s: the net told may not be: %.3000v", what, got)
	}
	return got
}

// isNone asks that Mesh refuses a net with an error and a row, and that no net is told with it.
func isNone(t *testing.T, what string, n api.Net, want api.Errno, at int) {
	t.Helper()
	got, row, e := overlay.Mesh(n)
	if e != want || row != at {
		t.Fatalf("%s: the error %d of the row %d is told, not %d of %d", what, e, row, want, at)
	}
	if !equal(got, api.Net{}) {
		t.Fatalf("%s: a net is told beside the error %d: %.2000v", what, e, got)
	}
}

// isMeshedAsSaid asks that of a net Mesh tells what the chapter says.
func isMeshedAsSaid(t *testing.T, what string, n api.Net) (api.Net, int, api.Errno) {
	t.Helper()
	want, at, e := saidMesh(n)
	if e != ok {
		isNone(t, what, n, e, at)
		return want, at, e
	}
	peers := map[int][]int{}
	for i, d := range want.Domains {
		peers[i] = d.Peers
	}
	isMeshed(t, what, n, peers)
	return want, at, e
}

// finds asks in which domain a device's VNI is.
func finds(t *testing.T, what string, n api.Net, dev, num, want int) {
	t.Helper()
	if got := overlay.Find(n, dev, num); got != want {
		t.Fatalf("%s: the VNI %d of the device %d is in the domain %d, not %d", what, num, dev, got, want)
	}
}

// anyVnis are VNIs of the tests' nets, those that lie beside them, and numbers that are none.
func anyVnis() []int {
	return []int{least, -5010, -5, -1, 0, 1, 4, 5, 6, 7, 8, 1000, 5009, 5010, 5011, 5030, mostVni, mostVni + 1, 1<<32 + 5, most}
}

// anyPlaces are places of a list of so many, the ones beside them, and numbers far off.
func anyPlaces(count int) []int {
	l := []int{least, -1 << 32, -2, -1}
	for i := range count + 2 {
		l = append(l, i)
	}
	return append(l, 48, 1<<16, 1<<32, most)
}

// shuffle brings a list into any order.
func shuffle[T any](l []T, draw func(below int) int) {
	for i := range l {
		at := draw(i + 1)
		l[i], l[at] = l[at], l[i]
	}
}

// lists are all lists of a net or a line, and those of their items.
func lists(v reflect.Value) []reflect.Value {
	var l []reflect.Value
	switch v.Kind() {
	case reflect.Struct:
		for i := range v.NumField() {
			l = append(l, lists(v.Field(i))...)
		}
	case reflect.Slice:
		l = append(l, v)
		for i := range v.Len() {
			l = append(l, lists(v.Index(i))...)
		}
	}
	return l
}

// room is all that lies in a list's memory, behind its end too.
func room(l reflect.Value) reflect.Value { return l.Slice(0, l.Cap()) }

// spoil writes into all lists of a net or a line, and behind their ends, from within outwards.
func spoil(pointer any) {
	all := lists(reflect.ValueOf(pointer).Elem())
	for _, l := range slices.Backward(all) {
		for i := range l.Cap() {
			fill(room(l).Index(i))
		}
	}
}

// fill writes something everywhere.
func fill(v reflect.Value) {
	switch v.Kind() {
	case reflect.Struct:
		for i := range v.NumField() {
			fill(v.Field(i))
		}
	case reflect.Slice:
		v.Set(reflect.MakeSlice(v.Type(), 2, 3))
		for i := range 2 {
			fill(v.Index(i))
		}
	case reflect.String:
		v.SetString("junk")
	default:
		v.Set(reflect.ValueOf(77).Convert(v.Type()))
	}
}

// clone is a net, or a part of one, or a line, of memory of its own, whose lists have so much spare room, in which something stands.
func clone[T any](one T, spare int) T {
	return cloneOf(reflect.ValueOf(one), spare).Interface().(T)
}

func cloneOf(v reflect.Value, spare int) reflect.Value {
	out := reflect.New(v.Type()).Elem()
	out.Set(v)
	switch v.Kind() {
	case reflect.Struct:
		for i := range v.NumField() {
			out.Field(i).Set(cloneOf(v.Field(i), spare))
		}
	case reflect.Slice:
		all := reflect.MakeSlice(v.Type(), v.Len()+spare, v.Len()+spare)
		for i := range all.Len() {
			if i < v.Len() {
				all.Index(i).Set(cloneOf(v.Index(i), spare))
			} else {
				fill(all.Index(i))
			}
		}
		out.Set(all.Slice(0, v.Len()))
	}
	return out
}

// rooms is a net, or a line, of memory of its own, whose lists have all that stood in the memory of the one's, behind their ends too.
func rooms[T any](one T) T {
	return roomsOf(reflect.ValueOf(one)).Interface().(T)
}

func roomsOf(v reflect.Value) reflect.Value {
	out := reflect.New(v.Type()).Elem()
	out.Set(v)
	switch v.Kind() {
	case reflect.Struct:
		for i := range v.NumField() {
			out.Field(i).Set(roomsOf(v.Field(i)))
		}
	case reflect.Slice:
		all := reflect.MakeSlice(v.Type(), v.Cap(), v.Cap())
		for i := range v.Cap() {
			all.Index(i).Set(roomsOf(room(v).Index(i)))
		}
		out.Set(all)
	}
	return out
}

// equal tells whether two nets, or two lines, are alike in all; nil and empty lists are.
func equal[T any](a, b T) bool { return reflect.DeepEqual(clone(a, 0), clone(b, 0)) }

// draws is a row of numbers made from a seed.
func draws(seed uint64) func(below int) int {
	return func(below int) int {
		seed = seed*6364136223846793005 + 1442695040888963407
		return int(seed>>33) % below
	}
}
