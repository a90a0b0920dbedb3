package domains_test

import (
	"math"
	"reflect"
	"slices"
	"strconv"
	"strings"
	"testing"

	"paling/api"
	"paling/domains"
	"paling/names"
	"paling/stmt"
)

// What the document's limits are, and the errors that are told here, in numbers of the tests' own.
const (
	mostPorts   = 40
	mostStatics = 64
	mostVlan    = 4094

	ok     api.Errno = 0
	arg    api.Errno = 2
	big    api.Errno = 3
	twice  api.Errno = 30
	name   api.Errno = 31
	member api.Errno = 32
)

// Ends of a type's numbers.
const (
	least = math.MinInt
	most  = math.MaxInt
)

// greatest is the greatest address that a line may have: no group's, and no host's.
const greatest = 0xfeffffffffff

// static is the line of a static entry.
func static(dev string, vlan int, mac uint64, port string) api.Line {
	return api.Line{Row: 90, Kind: 4, Dev: dev, Vlan: vlan, Mac: mac, Port: port}
}

// into is the line of a static entry of a domain and a port of a net.
func into(n api.Net, domain, port int, mac uint64) api.Line {
	return static(n.Devices[n.Ports[port].Dev].Name, n.Domains[domain].Vlan, mac, n.Ports[port].Name)
}

// row is a net of so many devices, sw1 and so on, without anything else.
func row(count int) api.Net {
	var n api.Net
	for i := range count {
		n.Devices = append(n.Devices, api.Device{Row: i + 1, Priority: 4096 * i, Name: "sw" + strconv.Itoa(i+1), Mac: uint64(i + 1)})
	}
	return n
}

// filled is a net of two devices, sw1 and sw2, each of which has a trunk p1 of the VLANs 10 (native), 20 and 30, and a port p2 of the VLAN 10; it has so many static entries, in each domain in turn, of addresses that rise from 1 on.
func filled(count int) api.Net {
	n := row(2)
	for dev := range 2 {
		for _, vlan := range []int{10, 20, 30} {
			n.Domains = append(n.Domains, api.Domain{Dev: dev, Vlan: vlan, Irb: -1})
		}
		n.Ports = append(n.Ports, api.Port{Row: 10 + dev, Dev: dev, Native: 10, Cost: 4, Link: -1, Name: "p1", Tagged: []int{20, 30}}, api.Port{Row: 20 + dev, Dev: dev, Native: 10, Cost: 4, Link: -1, Name: "p2"})
	}
	for i := range count {
		domain := i % 6
		n.Statics = append(n.Statics, api.Static{Row: 30 + i, Domain: domain, Port: domain / 3 * 2, Mac: uint64(i + 1)})
	}
	return n
}

// whole is a net that has all there is: devices, links with access ports and with trunks, a mesh of three and one of two, static entries, flood lists, VRFs and interfaces. Its ports 0, 5 and 6, of the devices a, c and d, have no link.
func whole() api.Net {
	return api.Net{
		Devices: []api.Device{
			{Row: 1, Priority: 4096, Name: "a", Mac: 1, Vtep: 0x0a000001},
			{Row: 2, Priority: 8192, Name: "b", Mac: 2, Vtep: 0x0a000002},
			{Row: 3, Name: "c", Mac: 3, Vtep: 0x0a000003},
			{Row: 4, Name: "d", Mac: 0xfeffffffffff},
		},
		Ports: []api.Port{
			{Row: 5, Dev: 0, Native: 10, Cost: 4, Link: -1, Name: "p1"},
			{Row: 6, Dev: 0, Native: 20, Cost: 5, Link: 0, Name: "p2", Tagged: []int{10, 30}},
			{Row: 7, Dev: 1, Cost: 6, Link: 0, Name: "p1", Tagged: []int{10, 30}},
			{Row: 8, Dev: 1, Native: 30, Cost: 7, Link: 1, Name: "p2"},
			{Row: 9, Dev: 2, Native: 40, Cost: 8, Link: 1, Name: "p1"},
			{Row: 10, Dev: 2, Native: 4094, Cost: 9, Link: -1, Name: "p2", Tagged: []int{1, 40}},
			{Row: 11, Dev: 3, Native: 10, Cost: 10, Link: -1, Name: "p1"},
		},
		Links: []api.Link{{Row: 12, A: 1, B: 2}, {Row: 13, A: 4, B: 3}},
		Domains: []api.Domain{
			{Dev: 0, Vlan: 10, Vni: 5010, Irb: 0, Row: 14, Peers: []int{8, 3}},
			{Dev: 0, Vlan: 20, Irb: -1},
			{Dev: 0, Vlan: 30, Vni: 5030, Irb: 2, Row: 15, Peers: []int{4}},
			{Dev: 1, Vlan: 10, Vni: 5010, Irb: -1, Row: 16, Peers: []int{0, 8}},
			{Dev: 1, Vlan: 30, Vni: 5030, Irb: 1, Row: 17, Peers: []int{2}},
			{Dev: 2, Vlan: 1, Irb: -1},
			{Dev: 2, Vlan: 4094, Vni: 7, Irb: -1, Row: 18},
			{Dev: 3, Vlan: 10, Irb: 3},
			{Dev: 2, Vlan: 40, Vni: 5010, Irb: -1, Row: 19, Peers: []int{3, 0}},
		},
		Statics: []api.Static{
			{Row: 20, Domain: 0, Port: 1, Mac: 7},
			{Row: 21, Domain: 1, Port: 1, Mac: 8},
			{Row: 22, Domain: 6, Port: 5, Mac: 9},
			{Row: 23, Domain: 7, Port: 6},
		},
		Floods: []api.Flood{
			{Row: 24, Dev: 0, Vni: 5010, Addrs: []uint32{2, 3}},
			{Row: 25, Dev: 3, Vni: 9},
		},
		Vrfs: []api.Vrf{
			{Row: 26, Dev: 0, Name: "red", Imports: []int{1, 2}, Exports: []int{1, 65535}},
			{Row: 27, Dev: 1, Name: "red", Imports: []int{7}},
			{Row: 28, Dev: 0, Name: "blue", Exports: []int{9}},
			{Row: 29, Dev: 3, Name: "blue"},
		},
		Irbs: []api.Irb{
			{Row: 30, Domain: 0, Vrf: 2, Net: api.Prefix{Addr: 0x0a000001, Bits: 24}},
			{Row: 31, Domain: 4, Vrf: 1, Net: api.Prefix{Addr: 0x0a000101, Bits: 30}},
			{Row: 32, Domain: 2, Vrf: 0, Net: api.Prefix{Addr: 0x0a000201, Bits: 1}},
			{Row: 33, Domain: 7, Vrf: 3, Net: api.Prefix{Addr: 0x0a000301, Bits: 16}},
		},
	}
}

// met is a net of three devices of four VLANs, each domain of which is a peer of those of the others, and has an interface and a static entry; of its nine trunks, three a device, none has a link.
func met() api.Net {
	n := row(3)
	for d := range n.Devices {
		n.Devices[d].Vtep = uint32(d + 1)
		n.Vrfs = append(n.Vrfs, api.Vrf{Dev: d, Name: "red", Imports: []int{1, 2, 3}, Exports: []int{65535}})
		for vlan := range 4 {
			one := api.Domain{Dev: d, Vlan: vlan + 1, Vni: 1<<24 - 1, Irb: len(n.Domains)}
			for i := range 12 {
				if i/4 != d {
					one.Peers = append(one.Peers, i)
				}
			}
			n.Irbs = append(n.Irbs, api.Irb{Domain: len(n.Domains), Vrf: d, Net: api.Prefix{Addr: uint32(vlan), Bits: 30}})
			n.Floods = append(n.Floods, api.Flood{Dev: d, Vni: vlan, Addrs: slices.Repeat([]uint32{7}, 16)})
			n.Statics = append(n.Statics, api.Static{Domain: len(n.Domains), Port: 3 * d, Mac: uint64(vlan)})
			n.Domains = append(n.Domains, one)
		}
		for i := range 3 {
			tagged := slices.DeleteFunc([]int{1, 2, 3, 4}, func(vlan int) bool { return vlan == i+1 })
			n.Ports = append(n.Ports, api.Port{Dev: d, Native: i + 1, Link: -1, Name: "p" + strconv.Itoa(i), Tagged: tagged})
		}
	}
	return n
}

// bare is a net whose two devices, and whose two ports, have no names.
func bare() api.Net {
	return api.Net{
		Devices: make([]api.Device, 2),
		Ports:   []api.Port{{Native: 1, Link: -1}, {Dev: 1, Native: 1, Link: -1}},
		Domains: []api.Domain{{Vlan: 1, Irb: -1}, {Dev: 1, Vlan: 1, Irb: -1}},
	}
}

// mixed is a net of two devices, sw1 and sw2, whose ports stand in turn, of which the first three of each are linked; each port is an access port of VLAN 7, 70, 700 or 4094, a trunk of some, or one of all of them. No port has the VLANs 1 and 999.
func mixed() api.Net {
	n := row(2)
	for i, vlan := range []int{4094, 7, 1, 700, 70, 999} {
		n.Domains = append(n.Domains, api.Domain{Dev: i % 2, Vlan: vlan, Irb: -1}, api.Domain{Dev: 1 - i%2, Vlan: vlan, Irb: -1})
	}
	for i, p := range []api.Port{
		{Native: 7},
		{Native: 70, Tagged: []int{7, 700}},
		{Tagged: []int{7, 70, 700, 4094}},
		{Native: 4094},
		{Native: 7, Tagged: []int{70}},
		{Native: 700},
		{Tagged: []int{7}},
		{Tagged: []int{4094}},
	} {
		for dev := range 2 {
			p.Dev, p.Link, p.Name = dev, -1, "p"+strconv.Itoa(i+1)
			if i < 3 {
				p.Link = i
			}
			n.Ports = append(n.Ports, clone(p, 0))
		}
	}
	n.Links = []api.Link{{A: 0, B: 1}, {A: 3, B: 2}, {A: 4, B: 5}}
	return n
}

// drawn is a net of two to eight devices, with up to forty ports of six VLANs, some of which are linked, with domains in any order, and with up to 64 static entries of few addresses, so that some are there twice.
func drawn(draw func(below int) int) api.Net {
	n := row(2 + draw(7))
	all := []int{1, 10, 20, 300, 4093, mostVlan}
	for dev := range n.Devices {
		for _, vlan := range all {
			n.Domains = slices.Insert(n.Domains, draw(len(n.Domains)+1), api.Domain{Dev: dev, Vlan: vlan, Irb: -1})
		}
	}
	for i := range 1 + draw(mostPorts) {
		p := api.Port{Dev: draw(len(n.Devices)), Native: append(all, 0)[draw(len(all)+1)], Link: -1, Name: "p" + strconv.Itoa(i)}
		for _, vlan := range all {
			if vlan != p.Native && draw(2) == 0 {
				p.Tagged = append(p.Tagged, vlan)
			}
		}
		if p.Native == 0 && p.Tagged == nil {
			p.Native = 10
		}
		n.Ports = append(n.Ports, p)
	}
	for range draw(40) {
		a, b := draw(len(n.Ports)), draw(len(n.Ports))
		if n.Ports[a].Dev != n.Ports[b].Dev && n.Ports[a].Link == -1 && n.Ports[b].Link == -1 {
			n.Ports[a].Link, n.Ports[b].Link = len(n.Links), len(n.Links)
			n.Links = append(n.Links, api.Link{A: a, B: b})
		}
	}
	for range draw(2) * draw(mostStatics+1) {
		port := draw(len(n.Ports))
		p := n.Ports[port]
		vlans := slices.DeleteFunc(append(slices.Clone(p.Tagged), p.Native), func(vlan int) bool { return vlan == 0 })
		domain := names.Domain(n, p.Dev, vlans[draw(len(vlans))])
		n.Statics = append(n.Statics, api.Static{Row: draw(400), Domain: domain, Port: port, Mac: uint64(draw(4))})
	}
	return n
}

// goods are nets that may be.
func goods() map[string]api.Net {
	return map[string]api.Net{
		"nothing": {}, "the whole": whole(), "the net of peers": met(), "no names": bare(), "ports of each kind": mixed(), "eight devices": row(8),
		"no static entry": filled(0), "one static entry": filled(1), "63 static entries": filled(63), "64 static entries": filled(mostStatics),
	}
}

func TestNetsOfTheTestsMayBe(t *testing.T) {
	for what, n := range goods() {
		if !names.Right(n) {
			t.Errorf("%s may not be", what)
		}
	}
	for seed := range 300 {
		if n := drawn(draws(uint64(seed))); !names.Right(n) {
			t.Errorf("the net %d may not be: %+v", seed, n)
		}
	}
}

// fault is a change of the whole net, that may not be with it.
type fault struct {
	what string
	turn func(n *api.Net)
}

// faults break what the parts of a net must be, each a rule of chapter 15.
func faults() []fault {
	l := []fault{
		{"nine devices", func(n *api.Net) { n.Devices = append(n.Devices, make([]api.Device, 5)...) }},
		{"a port of no device", func(n *api.Net) { n.Ports[6].Dev = 4 }},
		{"a port of the device -1", func(n *api.Net) { n.Ports[0].Dev = -1 }},
		{"a native VLAN below 0", func(n *api.Net) { n.Ports[0].Native = -1 }},
		{"a native VLAN above 4094", func(n *api.Net) { n.Ports[0].Native = 4095 }},
		{"a port without a VLAN", func(n *api.Net) { n.Ports[0].Native = 0 }},
		{"a VLAN without a domain", func(n *api.Net) { n.Ports[0].Native = 11 }},
		{"VLANs that fall", func(n *api.Net) { n.Ports[1].Tagged = []int{30, 10} }},
		{"a VLAN both native and tagged", func(n *api.Net) { n.Ports[1].Tagged = []int{10, 20} }},
		{"a port of no link", func(n *api.Net) { n.Ports[0].Link = 2 }},
		{"a port of another one's link", func(n *api.Net) { n.Ports[0].Link = 1 }},
		{"a port of the link -2", func(n *api.Net) { n.Ports[0].Link = -2 }},
		{"a link of no port", func(n *api.Net) { n.Links[1].A = 7 }},
		{"a link of the port -1", func(n *api.Net) { n.Links[1].B = -1 }},
		{"a link of a port without one", func(n *api.Net) { n.Ports[2].Link = -1 }},
		{"a link of one port", func(n *api.Net) { n.Links[0].B = 1 }},
		{"a link of one device", func(n *api.Net) { n.Ports[2].Dev = 0 }},
		{"a link too many", func(n *api.Net) { n.Links = append(n.Links, api.Link{A: 1, B: 2}) }},
		{"a domain of no device", func(n *api.Net) { n.Domains = append(n.Domains, api.Domain{Dev: 4, Vlan: 9, Irb: -1}) }},
		{"a domain of VLAN 0", func(n *api.Net) { n.Domains = append(n.Domains, api.Domain{Irb: -1}) }},
		{"a domain twice", func(n *api.Net) { n.Domains = append(n.Domains, api.Domain{Dev: 3, Vlan: 10, Irb: -1}) }},
		{"a VNI above its end", func(n *api.Net) { n.Domains[6].Vni = 1 << 24 }},
		{"a domain of no interface", func(n *api.Net) { n.Domains[1].Irb = 4 }},
		{"a domain of another one's interface", func(n *api.Net) { n.Domains[1].Irb = 0 }},
		{"a peer that is no domain", func(n *api.Net) { n.Domains[2].Peers[0] = 9 }},
		{"a peer that does not have it", func(n *api.Net) { n.Domains[4].Peers = nil }},
		{"a peer twice", func(n *api.Net) { n.Domains[2].Peers = []int{4, 4} }},
		{"peers of unlike VNIs", func(n *api.Net) { n.Domains[2].Vni = 5031 }},
		{"a peer without a VTEP", func(n *api.Net) { n.Devices[1].Vtep = 0 }},
		{"a static entry of no domain", func(n *api.Net) { n.Statics[0].Domain = 9 }},
		{"a static entry of no port", func(n *api.Net) { n.Statics[0].Port = -1 }},
		{"a static entry of a port without the VLAN", func(n *api.Net) { n.Statics[1].Port = 0 }},
		{"a flood list of no device", func(n *api.Net) { n.Floods[1].Dev = 4 }},
		{"a flood list of 17", func(n *api.Net) { n.Floods[1].Addrs = make([]uint32, 17) }},
		{"a VRF of no device", func(n *api.Net) { n.Vrfs[0].Dev = -1 }},
		{"imports that fall", func(n *api.Net) { n.Vrfs[0].Imports = []int{2, 1} }},
		{"an export of 0", func(n *api.Net) { n.Vrfs[3].Exports = []int{0} }},
		{"an interface of no domain", func(n *api.Net) { n.Irbs[3].Domain = 9 }},
		{"an interface of no VRF", func(n *api.Net) { n.Irbs[3].Vrf = 4 }},
		{"an interface of another device's VRF", func(n *api.Net) { n.Irbs[3].Vrf = 0 }},
		{"an interface of 31 bits", func(n *api.Net) { n.Irbs[3].Net.Bits = 31 }},
	}
	return append(l,
		fault{"41 ports", func(n *api.Net) { n.Ports = append(n.Ports, slices.Repeat(n.Ports[6:7], 34)...) }},
		fault{"49 domains", func(n *api.Net) {
			for vlan := range 40 {
				n.Domains = append(n.Domains, api.Domain{Dev: 3, Vlan: 1000 + vlan, Irb: -1})
			}
		}},
		fault{"21 links", func(n *api.Net) { n.Links = append(n.Links, make([]api.Link, 19)...) }},
		fault{"65 static entries", func(n *api.Net) { n.Statics = slices.Repeat(n.Statics[:1], 65) }},
		fault{"49 flood lists", func(n *api.Net) { n.Floods = slices.Repeat(n.Floods[:1], 49) }},
		fault{"17 VRFs", func(n *api.Net) { n.Vrfs = append(n.Vrfs, make([]api.Vrf, 13)...) }},
		fault{"49 interfaces", func(n *api.Net) { n.Irbs = append(n.Irbs, make([]api.Irb, 45)...) }},
	)
}

func TestFaultsMayNotBe(t *testing.T) {
	for _, f := range faults() {
		n := whole()
		if f.turn(&n); names.Right(n) {
			t.Errorf("%s may be", f.what)
		}
	}
}

// has tells whether a port has a VLAN, by the chapter's words.
func has(p api.Port, vlan int) bool {
	for _, own := range append([]int{p.Native}, p.Tagged...) {
		if own == vlan && vlan != 0 {
			return true
		}
	}
	return false
}

// said is what the chapter says of a static entry's line.
func said(n api.Net, l api.Line) (api.Net, api.Errno) {
	if !names.Right(n) || !stmt.Right(l) || l.Kind != 4 {
		return api.Net{}, arg
	}
	dev := slices.IndexFunc(n.Devices, func(d api.Device) bool { return d.Name == l.Dev })
	port := slices.IndexFunc(n.Ports, func(p api.Port) bool { return p.Dev == dev && p.Name == l.Port })
	domain := slices.IndexFunc(n.Domains, func(d api.Domain) bool { return d.Dev == dev && d.Vlan == l.Vlan })
	if dev < 0 || port < 0 {
		return api.Net{}, name
	}
	if domain < 0 || !has(n.Ports[port], l.Vlan) {
		return api.Net{}, member
	}
	for _, s := range n.Statics {
		if s.Domain == domain && s.Mac == l.Mac {
			return api.Net{}, twice
		}
	}
	if len(n.Statics) == mostStatics {
		return api.Net{}, big
	}
	out := clone(n, 0)
	out.Statics = append(out.Statics, api.Static{Row: l.Row, Domain: domain, Port: port, Mac: l.Mac})
	return out, ok
}

// saidLookup is what the chapter says of a domain's address: of all that fit, from the last one on, the one that stays.
func saidLookup(n api.Net, domain int, mac uint64) int {
	port := -1
	if names.Right(n) {
		for _, s := range slices.Backward(n.Statics) {
			if s.Domain == domain && s.Mac == mac {
				port = s.Port
			}
		}
	}
	return port
}

// saidHosts is what the chapter says of a domain's ports, by the links that there are.
func saidHosts(n api.Net, domain int) []int {
	if !names.Right(n) || domain < 0 || domain >= len(n.Domains) {
		return nil
	}
	linked := map[int]bool{}
	for _, l := range n.Links {
		linked[l.A], linked[l.B] = true, true
	}
	var l []int
	for i, p := range n.Ports {
		if p.Dev == n.Domains[domain].Dev && has(p, n.Domains[domain].Vlan) && !linked[i] {
			l = append(l, i)
		}
	}
	return l
}

// saidText is what the chapter says of a domain's text, digit by digit.
func saidText(n api.Net, domain int) string {
	if !names.Right(n) || domain < 0 || domain >= len(n.Domains) {
		return ""
	}
	d := n.Domains[domain]
	digits := ""
	for left := d.Vlan; left > 0; left /= 10 {
		digits = string("0123456789"[left%10]) + digits
	}
	return strings.Join([]string{n.Devices[d.Dev].Name, digits}, "/")
}

// isPut asks that a line is put, and what net is told.
func isPut(t *testing.T, what string, n api.Net, l api.Line, want api.Net) api.Net {
	t.Helper()
	got, e := domains.Static(n, l)
	if e != ok {
		t.Fatalf("%s: %+v is refused with %d", what, l, e)
	}
	if !equal(got, want) {
		t.Fatalf("%s: of %+v the net told is\n%.2000v, not\n%.2000v", what, l, got, want)
	}
	if !names.Right(got) {
		t.Fatalf("%s: of %+v the net told may not be: %.2000v", what, l, got)
	}
	return got
}

// makes asks that a line is put as a static entry of this domain and port, behind all others, and that nothing else changes.
func makes(t *testing.T, what string, n api.Net, l api.Line, domain, port int) api.Net {
	t.Helper()
	want := clone(n, 0)
	want.Statics = append(want.Statics, api.Static{Row: l.Row, Domain: domain, Port: port, Mac: l.Mac})
	return isPut(t, what, n, l, want)
}

// isRefused asks that a line is refused, and that no net is told with the error.
func isRefused(t *testing.T, what string, n api.Net, l api.Line, want api.Errno) {
	t.Helper()
	got, e := domains.Static(n, l)
	if e != want {
		t.Fatalf("%s: of %+v the error is %d, not %d", what, l, e, want)
	}
	if !equal(got, api.Net{}) {
		t.Fatalf("%s: of %+v a net is told beside the error %d: %.2000v", what, l, e, got)
	}
}

// isSaid asks that of a net and a line Static tells what the chapter says.
func isSaid(t *testing.T, what string, n api.Net, l api.Line) {
	t.Helper()
	if want, e := said(n, l); e != ok {
		isRefused(t, what, n, l, e)
	} else {
		isPut(t, what, n, l, want)
	}
}

// leads asks to which port a domain's address leads.
func leads(t *testing.T, what string, n api.Net, domain int, mac uint64, want int) {
	t.Helper()
	if got := domains.Lookup(n, domain, mac); got != want {
		t.Fatalf("%s: the address %x of the domain %d leads to %d, not to %d", what, mac, domain, got, want)
	}
}

// hosts asks which ports for hosts a domain has.
func hosts(t *testing.T, what string, n api.Net, domain int, want ...int) {
	t.Helper()
	if got := domains.Hosts(n, domain); !slices.Equal(got, want) {
		t.Fatalf("%s: the ports for hosts of the domain %d are %v, not %v", what, domain, got, want)
	}
}

// reads asks what a domain's text is.
func reads(t *testing.T, what string, n api.Net, domain int, want string) {
	t.Helper()
	if got := domains.Text(n, domain); got != want {
		t.Fatalf("%s: the text of the domain %d is %q, not %q", what, domain, got, want)
	}
}

// isTold asks that of a domain of a net, and of some addresses, all is told that the chapter says.
func isTold(t *testing.T, what string, n api.Net, domain int) {
	t.Helper()
	for _, mac := range anyMacs() {
		leads(t, what, n, domain, mac, saidLookup(n, domain, mac))
	}
	hosts(t, what, n, domain, saidHosts(n, domain)...)
	reads(t, what, n, domain, saidText(n, domain))
}

// anyMacs are addresses of the tests' nets, those that lie beside them, and numbers that are none.
func anyMacs() []uint64 {
	return []uint64{0, 1, 2, 3, 4, 5, 6, 7, 8, 9, 10, 64, 65, 1 << 40, greatest, 1<<48 - 1, 1 << 48, 1<<48 + 7, math.MaxUint64}
}

// anyPlaces are places of a list of so many, the ones beside them, and numbers far off.
func anyPlaces(count int) []int {
	l := []int{least, -1 << 32, -49, -2, -1}
	for i := range count + 3 {
		l = append(l, i)
	}
	return append(l, 48, 49, 1<<16, 1<<32, most)
}

// lists are all lists of a net or a line, and those of their items.
func lists(v reflect.Value) []reflect.Value {
	var l []reflect.Value
	switch v.Kind() {
	case reflect.Struct:
		for i := range v.NumField() {
			l = append(l, lists(v.Field(i))...)
		}
	case reflect.Slice:
		l = append(l, v)
		for i := range v.Len() {
			l = append(l, lists(v.Index(i))...)
		}
	}
	return l
}

// room is all that lies in a list's memory, behind its end too.
func room(l reflect.Value) reflect.Value { return l.Slice(0, l.Cap()) }

// spoil writes into all lists of a net or a line, and behind their ends, from within outwards.
func spoil(pointer any) {
	all := lists(reflect.ValueOf(pointer).Elem())
	for _, l := range slices.Backward(all) {
		for i := range l.Cap() {
			fill(room(l).Index(i))
		}
	}
}

// fill writes something everywhere.
func fill(v reflect.Value) {
	switch v.Kind() {
	case reflect.Struct:
		for i := range v.NumField() {
			fill(v.Field(i))
		}
	case reflect.Slice:
		v.Set(reflect.MakeSlice(v.Type(), 2, 3))
		for i := range 2 {
			fill(v.Index(i))
		}
	case reflect.String:
		v.SetString("junk")
	default:
		v.Set(reflect.ValueOf(77).Convert(v.Type()))
	}
}

// clone is a net, or a line, of memory of its own, whose lists have so much spare room, in which something stands.
func clone[T any](one T, spare int) T {
	return cloneOf(reflect.ValueOf(one), spare).Interface().(T)
}

func cloneOf(v reflect.Value, spare int) reflect.Value {
	out := reflect.New(v.Type()).Elem()
	out.Set(v)
	switch v.Kind() {
	case reflect.Struct:
		for i := range v.NumField() {
			out.Field(i).Set(cloneOf(v.Field(i), spare))
		}
	case reflect.Slice:
		all := reflect.MakeSlice(v.Type(), v.Len()+spare, v.Len()+spare)
		for i := range all.Len() {
			if i < v.Len() {
				all.Index(i).Set(cloneOf(v.Index(i), spare))
			} else {
				fill(all.Index(i))
			}
		}
		out.Set(all.Slice(0, v.Len()))
	}
	return out
}

// rooms is a net, or a line, of memory of its own, whose lists have all that stood in the memory of the one's, behind their ends too.
func rooms[T any](one T) T {
	return roomsOf(reflect.ValueOf(one)).Interface().(T)
}

func roomsOf(v reflect.Value) reflect.Value {
	out := reflect.New(v.Type()).Elem()
	out.Set(v)
	switch v.Kind() {
	case reflect.Struct:
		for i := range v.NumField() {
			out.Field(i).Set(roomsOf(v.Field(i)))
		}
	case reflect.Slice:
		all := reflect.MakeSlice(v.Type(), v.Cap(), v.Cap())
		for i := range v.Cap() {
			all.Index(i).Set(roomsOf(room(v).Index(i)))
		}
		out.Set(all)
	}
	return out
}

// equal tells whether two nets, or two lines, are alike in all; nil and empty lists are.
func equal[T any](a, b T) bool { return reflect.DeepEqual(clone(a, 0), clone(b, 0)) }

// draws is a row of numbers made from a seed.
func draws(seed uint64) func(below int) int {
	return func(below int) int {
		seed = seed*6364136223846793005 + 1442695040888963407
		return int(seed>>33) % below
	}
}
