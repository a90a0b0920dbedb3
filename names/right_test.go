package names_test

import (
	"fmt"
	"reflect"
	"slices"
	"testing"

	"paling/api"
	"paling/names"
)

// P15.1

func TestRightOfNetsThatMayBe(t *testing.T) {
	for what, n := range goods() {
		if broken := said(n); len(broken) > 0 {
			t.Fatalf("%s breaks %v", what, broken)
		}
		isRight(t, what, n, true)
		isRight(t, what+", copied", clone(n, 3), true)
	}
}

// P15.5: a net without anything, of nil and of empty lists.
func TestRightOfNothing(t *testing.T) {
	isRight(t, "nil lists", api.Net{}, true)
	isRight(t, "empty lists", clone(api.Net{}, 0), true)
	isRight(t, "lists with something behind their ends", clone(api.Net{}, 5), true)
}

// fault is a change of the whole net that breaks just these rules.
type fault struct {
	what   string
	turn   func(n *api.Net)
	broken []string
}

// portFaults break what ports must be.
func portFaults() []fault {
	port := func(what string, turn func(p *api.Port), broken ...string) fault {
		return fault{"port: " + what, func(n *api.Net) { turn(&n.Ports[0]) }, broken}
	}
	trunk := func(what string, turn func(p *api.Port), broken ...string) fault {
		return fault{"trunk: " + what, func(n *api.Net) { turn(&n.Ports[5]) }, broken}
	}
	return []fault{
		port("neither of both", func(p *api.Port) { p.Native = 0 }, "one of both"),
		port("neither of both, an empty list", func(p *api.Port) { p.Native, p.Tagged = 0, []int{} }, "one of both"),
		port("Native -1", func(p *api.Port) { p.Native = -1 }, "Native", "Port's Domain"),
		port("Native 1", func(p *api.Port) { p.Native = 1 }, "Port's Domain"),
		port("Native 4094", func(p *api.Port) { p.Native = 4094 }, "Port's Domain"),
		port("Native 4095", func(p *api.Port) { p.Native = 4095 }, "Native", "Port's Domain"),
		port("a Native of another device", func(p *api.Port) { p.Native = 40 }, "Port's Domain"),
		port("a Tagged without a Domain", func(p *api.Port) { p.Tagged = []int{11} }, "Port's Domain"),
		port("a last Tagged without a Domain", func(p *api.Port) { p.Tagged = []int{20, 30, 40} }, "Port's Domain"),
		port("Tagged 0", func(p *api.Port) { p.Tagged = []int{0} }, "Tagged"),
		port("Tagged 0 without a Native", func(p *api.Port) { p.Native, p.Tagged = 0, []int{0} }, "Tagged"),
		port("Tagged -1", func(p *api.Port) { p.Tagged = []int{-1} }, "Tagged", "Port's Domain"),
		port("Tagged 4095", func(p *api.Port) { p.Tagged = []int{4095} }, "Tagged", "Port's Domain"),
		port("Tagged that falls", func(p *api.Port) { p.Tagged = []int{30, 20} }, "Tagged"),
		port("Tagged with one twice", func(p *api.Port) { p.Tagged = []int{20, 20} }, "Tagged"),
		port("Tagged has Native", func(p *api.Port) { p.Tagged = []int{10} }, "Tagged has Native"),
		port("a Link at how many there are", func(p *api.Port) { p.Link = 2 }, "Port's Link"),
		port("a Link above", func(p *api.Port) { p.Link = most }, "Port's Link"),
		port("a Link below -1", func(p *api.Port) { p.Link = -2 }, "Port's Link"),
		port("a Link below", func(p *api.Port) { p.Link = least }, "Port's Link"),
		port("the first Link, which is another's", func(p *api.Port) { p.Link = 0 }, "Link's Port"),
		port("the last Link, which is another's", func(p *api.Port) { p.Link = 1 }, "Link's Port"),
		port("Dev -1", func(p *api.Port) { p.Dev = -1 }, "Dev", "Port's Domain"),
		port("Dev at how many there are", func(p *api.Port) { p.Dev = 4 }, "Dev", "Port's Domain"),
		trunk("Tagged has Native at its end", func(p *api.Port) { p.Native, p.Tagged = 40, []int{1, 40} }, "Static's Vlan", "Tagged has Native"),
		trunk("Tagged has Native first", func(p *api.Port) { p.Native = 1 }, "Static's Vlan", "Tagged has Native"),
		trunk("Tagged from 1 to 4094 has Native", func(p *api.Port) { p.Tagged = []int{1, 40, 4094} }, "Tagged has Native"),
	}
}

// linkFaults break what links must be.
func linkFaults() []fault {
	link := func(what string, turn func(l *api.Link), broken ...string) fault {
		return fault{"link: " + what, func(n *api.Net) { turn(&n.Links[0]) }, broken}
	}
	var l []fault
	for _, at := range []int{-1, least, 7, 8, most} {
		l = append(l,
			link("A is no place", func(l *api.Link) { l.A = at }, "A", "Link's Port"),
			link("B is no place", func(l *api.Link) { l.B = at }, "B", "Link's Port"),
			// Links that no port has.
			fault{"link: A of a new one is no place", func(n *api.Net) { n.Links = append(n.Links, api.Link{A: at}) }, []string{"A", "B's Link"}},
			fault{"link: B of a new one is no place", func(n *api.Net) { n.Links = append(n.Links, api.Link{B: at}) }, []string{"A's Link", "B"}},
			fault{"link: both of a new one are no place", func(n *api.Net) { n.Links = append(n.Links, api.Link{A: at, B: at}) }, []string{"A", "B"}},
			fault{"link: both of a new first one are no place", func(n *api.Net) { n.Links = []api.Link{{A: at, B: at}} }, []string{"A", "B", "Link's Port", "Port's Link"}})
	}
	return append(l,
		link("A without a Link", func(l *api.Link) { l.A = 0 }, "A's Link", "Link's Port"),
		link("B without a Link", func(l *api.Link) { l.B = 5 }, "B's Link", "Link's Port"),
		link("A of another Link", func(l *api.Link) { l.A = 4 }, "A's Link", "Link's Port"),
		link("B of another Link", func(l *api.Link) { l.B = 4 }, "B's Link", "Link's Port"),
		link("A is B", func(l *api.Link) { l.A = l.B }, "Link's Devs", "Link's Port"),
		link("B is A", func(l *api.Link) { l.B = l.A }, "Link's Devs", "Link's Port"),
		fault{"link: A's Port has none", func(n *api.Net) { n.Ports[1].Link = -1 }, []string{"A's Link"}},
		fault{"link: B's Port has none", func(n *api.Net) { n.Ports[2].Link = -1 }, []string{"B's Link"}},
		fault{"link: A's Port has another one", func(n *api.Net) { n.Ports[1].Link = 1 }, []string{"A's Link", "Link's Port"}},
		fault{"link: B's Port has another one", func(n *api.Net) { n.Ports[2].Link = 1 }, []string{"B's Link", "Link's Port"}},
		fault{"link: both of one device", func(n *api.Net) { n.Ports[1].Dev, n.Ports[1].Native, n.Statics = 1, 0, nil }, []string{"Link's Devs"}},
		fault{"link: a second one of the same ports", func(n *api.Net) { n.Links = append(n.Links, n.Links[0]) }, []string{"A's Link", "B's Link"}},
		fault{"link: gone", func(n *api.Net) { n.Links = n.Links[:1] }, []string{"Port's Link"}},
	)
}

// domainFaults break what domains must be.
func domainFaults() []fault {
	domain := func(what string, at int, turn func(d *api.Domain), broken ...string) fault {
		return fault{fmt.Sprintf("domain %d: %s", at, what), func(n *api.Net) { turn(&n.Domains[at]) }, broken}
	}
	var l []fault
	for _, at := range []int{least, -2, 4, 5, most} {
		l = append(l, domain("Irb is no place", 1, func(d *api.Domain) { d.Irb = at }, "Irb"))
	}
	for _, at := range []int{least, -2, -1, 9, 10, most} {
		l = append(l,
			domain("a Peer that is no place", 2, func(d *api.Domain) { d.Peers = []int{4, at} }, "Peer"),
			domain("a first Peer that is no place", 0, func(d *api.Domain) { d.Peers = []int{at, 8, 3} }, "Peer"))
	}
	for _, vlan := range []int{least, -1, 0, 4095, 4096, most} {
		l = append(l, fault{fmt.Sprint("domain: Vlan ", vlan), func(n *api.Net) { n.Domains = append(n.Domains, api.Domain{Vlan: vlan, Irb: -1}) }, []string{"Vlan"}})
	}
	for _, vni := range []int{least, -1, 1 << 24, 1<<24 + 1, most} {
		l = append(l, domain(fmt.Sprint("Vni ", vni), 5, func(d *api.Domain) { d.Vni = vni }, "Vni"))
	}
	return append(l,
		domain("a Vlan that is there", 1, func(d *api.Domain) { d.Vlan = 10 }, "Dev and Vlan", "Port's Domain"),
		fault{"domain: the first one of Dev and Vlan again", func(n *api.Net) { n.Domains = append(n.Domains, api.Domain{Vlan: 10, Irb: -1}) }, []string{"Dev and Vlan"}},
		fault{"domain: the last one of Dev and Vlan again", func(n *api.Net) { n.Domains = append(n.Domains, api.Domain{Dev: 2, Vlan: 40, Irb: -1}) }, []string{"Dev and Vlan"}},
		domain("an Irb that is another domain's", 1, func(d *api.Domain) { d.Irb = 0 }, "Irb's own"),
		domain("the last Irb, which is another domain's", 1, func(d *api.Domain) { d.Irb = 3 }, "Irb's own"),
		domain("an Irb that has it, but is none of its own", 0, func(d *api.Domain) { d.Irb = -1 }, "Domain's Irb"),
		domain("itself as a Peer", 2, func(d *api.Domain) { d.Peers = []int{4, 2} }, "Peer"),
		domain("a Peer that does not have it", 0, func(d *api.Domain) { d.Peers = []int{3} }, "Peer's Peers"),
		domain("Peers that do not have it", 4, func(d *api.Domain) { d.Peers = nil }, "Peer's Peers"),
		domain("no Peers, which have it", 8, func(d *api.Domain) { d.Peers = []int{} }, "Peer's Peers"),
		domain("a Peer twice", 0, func(d *api.Domain) { d.Peers = []int{8, 3, 8} }, "Peer twice"),
		domain("a Peer twice, one behind the other", 2, func(d *api.Domain) { d.Peers = []int{4, 4} }, "Peer twice"),
		domain("another Vni than its Peers'", 2, func(d *api.Domain) { d.Vni++ }, "Peer's Vni"),
		domain("no Vni, and Peers", 2, func(d *api.Domain) { d.Vni = 0 }, "Peer's Vni", "Vni 0"),
		fault{"domain: Vni 0 of both peers", func(n *api.Net) { n.Domains[2].Vni, n.Domains[4].Vni = 0, 0 }, []string{"Vni 0"}},
		fault{"domain: peers of one Dev", func(n *api.Net) {
			n.Domains[5] = api.Domain{Dev: 2, Vlan: 1, Vni: 7, Irb: -1, Peers: []int{6}}
			n.Domains[6].Peers = []int{5}
		}, []string{"Peer's Dev"}},
		fault{"domain: peers, the first one's Dev without a Vtep", func(n *api.Net) { n.Devices[0].Vtep = 0 }, []string{"Peer's Vtep", "Vtep"}},
		fault{"domain: peers, a later one's Dev without a Vtep", func(n *api.Net) { n.Devices[2].Vtep = 0 }, []string{"Peer's Vtep", "Vtep"}},
	)
}

// otherFaults break what static entries, flood lists, VRFs and interfaces must be, and Devs.
func otherFaults() []fault {
	var l []fault
	for _, at := range []int{least, -1, 4, 5, most} {
		l = append(l,
			fault{"a Domain's Dev", func(n *api.Net) { n.Domains = append(n.Domains, api.Domain{Dev: at, Vlan: 1, Irb: -1}) }, []string{"Dev"}},
			fault{"a Flood's Dev", func(n *api.Net) { n.Floods[1].Dev = at }, []string{"Dev"}},
			fault{"a Vrf's Dev", func(n *api.Net) { n.Vrfs = append(n.Vrfs, api.Vrf{Dev: at}) }, []string{"Dev"}},
			fault{"an Irb's Vrf", func(n *api.Net) { n.Irbs[1].Vrf = at }, []string{"Irb's Vrf"}},
		)
	}
	for _, at := range []int{least, -1, 9, 10, most} {
		l = append(l,
			fault{"a Static's Domain", func(n *api.Net) { n.Statics[0].Domain = at }, []string{"Static's Domain"}},
			fault{"an Irb's Domain", func(n *api.Net) { n.Irbs = append(n.Irbs, api.Irb{Domain: at, Net: api.Prefix{Bits: 1}}) }, []string{"Irb's Domain"}})
	}
	for _, at := range []int{least, -1, 7, 8, most} {
		l = append(l, fault{"a Static's Port", func(n *api.Net) { n.Statics[3].Port = at }, []string{"Static's Port"}})
	}
	for _, bits := range []int{least, -1, 0, 31, 32, 33, most} {
		l = append(l, fault{fmt.Sprint("Bits ", bits), func(n *api.Net) { n.Irbs[2].Net.Bits = bits }, []string{"Bits"}})
	}
	for _, targets := range [][]int{{0}, {-1}, {65536}, {least}, {most}, {2, 1}, {3, 3}, {1, 5, 4}, {0, 1}, {1, 65536}, counted(mostList + 1), counted(1 << 16)} {
		what := fmt.Sprintf("%.40v", fmt.Sprint(targets))
		l = append(l,
			fault{"Imports " + what, func(n *api.Net) { n.Vrfs[0].Imports = targets }, []string{"Imports"}},
			fault{"Exports " + what, func(n *api.Net) { n.Vrfs[3].Exports = targets }, []string{"Exports"}})
	}
	return append(l,
		fault{"a Static on a port of another device", func(n *api.Net) { n.Statics[0].Port = 2 }, []string{"Static's Dev"}},
		fault{"a Static on a port without the Vlan", func(n *api.Net) { n.Statics[1].Port = 0 }, []string{"Static's Vlan"}},
		fault{"a Static of a domain that the port does not have", func(n *api.Net) { n.Statics[3].Port = 5 }, []string{"Static's Dev", "Static's Vlan"}},
		fault{"an Irb whose Vrf is of another device", func(n *api.Net) { n.Irbs[0].Vrf = 1 }, []string{"Irb's Dev"}},
		fault{"a Vrf of an Irb goes to another device", func(n *api.Net) { n.Vrfs[3].Dev = 2 }, []string{"Irb's Dev"}},
		fault{"an Irb of a domain that has none", func(n *api.Net) { n.Irbs = append(n.Irbs, api.Irb{Domain: 1, Net: api.Prefix{Bits: 8}}) }, []string{"Domain's Irb"}},
		fault{"a second Irb of a domain", func(n *api.Net) { n.Irbs = append(n.Irbs, n.Irbs[0]) }, []string{"Domain's Irb"}},
		fault{"17 Addrs", func(n *api.Net) { n.Floods[1].Addrs = make([]uint32, 17) }, []string{"Addrs"}},
		fault{"very many Addrs", func(n *api.Net) { n.Floods[0].Addrs = make([]uint32, 1<<16) }, []string{"Addrs"}},
		fault{"no devices", func(n *api.Net) { *n = api.Net{Vrfs: n.Vrfs} }, []string{"Dev"}},
	)
}

func allFaults() []fault {
	return slices.Concat(portFaults(), linkFaults(), domainFaults(), otherFaults())
}

// Each rule broken alone, or with those that cannot hold without it.
func TestRightAsksEachRule(t *testing.T) {
	seen := map[string]bool{}
	for _, f := range allFaults() {
		n := whole()
		f.turn(&n)
		slices.Sort(f.broken)
		if broken := said(n); !slices.Equal(broken, f.broken) {
			t.Fatalf("%s breaks %v, not %v", f.what, broken, f.broken)
		}
		isRight(t, f.what, n, false)
		for _, rule := range f.broken {
			seen[rule] = true
		}
	}
	for _, rule := range []string{
		"Dev", "Native", "Tagged", "one of both", "Tagged has Native", "Port's Link", "Link's Port", "Port's Domain", "A", "B", "A's Link", "B's Link", "Link's Devs",
		"Vlan", "Vni", "Irb", "Irb's own", "Dev and Vlan", "Peer", "Peer twice", "Peer's Dev", "Vtep", "Peer's Vtep", "Peer's Vni", "Vni 0", "Peer's Peers",
		"Static's Domain", "Static's Port", "Static's Dev", "Static's Vlan", "Addrs", "Imports", "Exports", "Bits", "Irb's Domain", "Irb's Vrf", "Domain's Irb", "Irb's Dev",
	} {
		if !seen[rule] {
			t.Errorf("no fault breaks %s", rule)
		}
	}
}

// What peers must be, turned on either side of a pair.
func TestRightAsksBothSidesOfPeers(t *testing.T) {
	pair := func() api.Net {
		return api.Net{
			Devices: []api.Device{{Vtep: 1}, {Vtep: 1}, {}},
			Domains: []api.Domain{{Dev: 0, Vlan: 10, Irb: -1, Vni: 5, Peers: []int{1}}, {Dev: 1, Vlan: 20, Irb: -1, Vni: 5, Peers: []int{0}}, {Dev: 2, Vlan: 10, Irb: -1, Vni: 5}},
		}
	}
	isRight(t, "a pair", pair(), true)
	for side := range 2 {
		for what, turn := range map[string]func(n *api.Net){
			"another Vni":       func(n *api.Net) { n.Domains[side].Vni = 6 },
			"Vni 0":             func(n *api.Net) { n.Domains[side].Vni = 0 },
			"no Vtep":           func(n *api.Net) { n.Devices[side].Vtep = 0 },
			"no Peers":          func(n *api.Net) { n.Domains[side].Peers = nil },
			"a Peer twice":      func(n *api.Net) { n.Domains[side].Peers = []int{1 - side, 1 - side} },
			"a Peer more":       func(n *api.Net) { n.Domains[side].Peers = []int{1 - side, 2} },
			"another Peer":      func(n *api.Net) { n.Domains[side].Peers = []int{2} },
			"itself":            func(n *api.Net) { n.Domains[side].Peers = []int{side} },
			"itself, too":       func(n *api.Net) { n.Domains[side].Peers = []int{1 - side, side} },
			"the other one Dev": func(n *api.Net) { n.Domains[side].Dev = 1 - side },
			"a Dev without one": func(n *api.Net) { n.Domains[side].Dev, n.Domains[2].Vlan = 2, 30 },
			"a Peer without a Vtep, which has it": func(n *api.Net) {
				n.Domains[side].Peers, n.Domains[2].Peers = []int{1 - side, 2}, []int{side}
			},
		} {
			n := pair()
			turn(&n)
			isRight(t, what, n, false)
			if len(said(n)) == 0 {
				t.Fatalf("%s breaks no rule", what)
			}
		}
		// Devs without a Vtep are no matter, where there are no Peers; a Vtep is none of another one's.
		n := pair()
		n.Domains[0].Peers, n.Domains[1].Peers, n.Devices[side].Vtep = nil, []int{}, 0
		isRight(t, "no Peers", n, true)
		n = pair()
		n.Devices[side].Vtep = 1<<32 - 1
		isRight(t, "another Vtep", n, true)
	}
	// What meets in a ring meets not at each side.
	n := api.Net{Devices: []api.Device{{Vtep: 1}, {Vtep: 2}, {Vtep: 3}}}
	for d := range 3 {
		n.Domains = append(n.Domains, api.Domain{Dev: d, Vlan: 1, Vni: 1, Irb: -1, Peers: []int{(d + 1) % 3}})
	}
	isRight(t, "a ring", n, false)
	for d := range 3 {
		n.Domains[d].Peers = []int{(d + 1) % 3, (d + 2) % 3}
	}
	isRight(t, "a mesh", n, true)
	// A mesh needs not be a full one, nor one of unlike Devs, for Right.
	n.Domains[0].Peers, n.Domains[1].Peers, n.Domains[2].Peers = []int{2, 1}, []int{0}, []int{0}
	isRight(t, "a star", n, true)
	n.Domains[2].Dev, n.Domains[2].Vlan = 1, 2
	isRight(t, "a star of two domains of one Dev", n, true)
}

// As many of each list as may be, and one more; each item again behind its list's end, too.
func TestRightCountsEachList(t *testing.T) {
	for what, limit := range map[string][2]int{
		"Devices": {api.MaxDevices, 8}, "Ports": {api.MaxPorts, 40}, "Links": {api.MaxLinks, 20}, "Domains": {api.MaxDomains, 48}, "Statics": {api.MaxStatics, 64}, "Vrfs": {api.MaxVrfs, 16}, "List": {api.MaxList, 16},
	} {
		if limit[0] != limit[1] {
			t.Errorf("Max%s is %d", what, limit[0])
		}
	}
	for what, c := range map[string]struct {
		most int
		with func(count int) api.Net
	}{
		"Devices": {mostDevices, func(count int) api.Net { return api.Net{Devices: make([]api.Device, count)} }},
		"Ports": {mostPorts, func(count int) api.Net {
			n := example()
			n.Ports = slices.Repeat(n.Ports, count)
			return n
		}},
		"Links": {mostLinks, func(count int) api.Net {
			// Beyond 20 links some ports would be more than may be, so one link is told again and again.
			n := full()
			if count <= mostLinks {
				n.Ports, n.Links, n.Statics = slices.Clone(n.Ports), n.Links[:count], nil
				for i := range n.Ports {
					if n.Ports[i].Link >= count {
						n.Ports[i].Link = -1
					}
				}
				return n
			}
			n.Links = append(n.Links, slices.Repeat(n.Links[:1], count-mostLinks)...)
			return n
		}},
		"Domains": {mostDomains, func(count int) api.Net {
			n := api.Net{Devices: make([]api.Device, 1)}
			for i := range count {
				n.Domains = append(n.Domains, api.Domain{Vlan: i + 1, Irb: -1})
			}
			return n
		}},
		"Statics": {mostStatics, func(count int) api.Net {
			n := example()
			n.Statics = make([]api.Static, count)
			return n
		}},
		"Floods": {mostFloods, func(count int) api.Net {
			n := example()
			n.Floods = make([]api.Flood, count)
			return n
		}},
		"Vrfs": {mostVrfs, func(count int) api.Net {
			n := example()
			n.Vrfs = make([]api.Vrf, count)
			return n
		}},
		"Irbs": {mostIrbs, func(count int) api.Net {
			n := full()
			if count <= mostIrbs {
				n.Irbs = n.Irbs[:count]
				for i := count; i < mostIrbs; i++ {
					n.Domains[i].Irb = -1
				}
				return n
			}
			n.Irbs = append(n.Irbs, slices.Repeat(n.Irbs[:1], count-mostIrbs)...)
			return n
		}},
	} {
		for _, count := range []int{0, 1, 2, c.most - 1, c.most, c.most + 1, c.most + 2, 2 * c.most, 255, 256, 257, 300} {
			n := c.with(count)
			isRight(t, fmt.Sprintf("%d %s", count, what), n, count <= c.most)
			rightHeld(t, fmt.Sprintf("%d %s", count, what), n)
		}
	}
}

// Lists within records: none, one, as many as may be, and one more.
func TestRightCountsListsWithin(t *testing.T) {
	for count := range 40 {
		isRight(t, fmt.Sprint(count, " Addrs"), api.Net{Devices: make([]api.Device, 1), Floods: []api.Flood{{}, {Addrs: make([]uint32, count)}}}, count <= 16)
		isRight(t, fmt.Sprint(count, " Imports"), api.Net{Devices: make([]api.Device, 1), Vrfs: []api.Vrf{{}, {Imports: counted(count)}}}, count <= 16)
		isRight(t, fmt.Sprint(count, " Exports"), api.Net{Devices: make([]api.Device, 1), Vrfs: []api.Vrf{{Exports: counted(count)}, {}}}, count <= 16)
		n := wide()
		for len(n.Domains) < 48 {
			n.Domains = append(n.Domains, api.Domain{Vlan: len(n.Domains) + 1, Irb: -1})
		}
		n.Ports[0].Tagged, n.Ports[0].Native = counted(count), 48
		isRight(t, fmt.Sprint(count, " Tagged"), n, count <= 16)
		n.Ports[0].Native = 0
		isRight(t, fmt.Sprint(count, " Tagged alone"), n, count >= 1 && count <= 16)
		n.Ports[0].Native = 1
		isRight(t, fmt.Sprint(count, " Tagged with Native"), n, count == 0)
	}
}

// Each number from below its range to above it.
func TestRightAsksForRanges(t *testing.T) {
	one := func(d api.Domain, p ...api.Port) api.Net {
		return api.Net{Devices: make([]api.Device, 1), Domains: []api.Domain{d}, Ports: p}
	}
	for _, n := range []int{least, -1 << 32, -4094, -2, -1, 0, 1, 2, 4093, 4094, 4095, 4096, 1<<16 + 1, 1<<24 - 1, 1 << 24, 1<<32 + 1, most} {
		vlan := n >= 1 && n <= 4094
		isRight(t, fmt.Sprint("Vlan ", n), one(api.Domain{Vlan: n, Irb: -1}), vlan)
		isRight(t, fmt.Sprint("Native ", n), one(api.Domain{Vlan: n, Irb: -1}, api.Port{Native: n, Link: -1}), vlan)
		isRight(t, fmt.Sprint("Tagged ", n), one(api.Domain{Vlan: n, Irb: -1}, api.Port{Tagged: []int{n}, Link: -1}), vlan)
		isRight(t, fmt.Sprint("Vni ", n), one(api.Domain{Vlan: 1, Vni: n, Irb: -1}), n >= 0 && n <= 16777215)
		// A number that Native has no range for, of a port whose Tagged is right.
		isRight(t, fmt.Sprint("Native beside Tagged ", n), one(api.Domain{Vlan: 7, Irb: -1}, api.Port{Native: n, Tagged: []int{7}, Link: -1}), n == 0)
	}
	for n := -3; n < 40; n++ {
		isRight(t, fmt.Sprint("Bits ", n), api.Net{
			Devices: make([]api.Device, 1), Domains: []api.Domain{{Vlan: 1}}, Vrfs: make([]api.Vrf, 1),
			Irbs: []api.Irb{{Net: api.Prefix{Addr: 1<<32 - 1, Bits: n}}},
		}, n >= 1 && n <= 30)
	}
	for _, n := range []int{least, -1, 0, 1, 2, 65534, 65535, 65536, 1<<32 + 1, most} {
		v := api.Net{Devices: make([]api.Device, 1), Vrfs: []api.Vrf{{Imports: []int{n}}}}
		isRight(t, fmt.Sprint("Imports ", n), v, n >= 1 && n <= 65535)
		v.Vrfs = []api.Vrf{{Exports: []int{n}}}
		isRight(t, fmt.Sprint("Exports ", n), v, n >= 1 && n <= 65535)
	}
}

// Of these fields any number, and any text, may be: nothing is asked of them.
func TestRightAsksNothingElse(t *testing.T) {
	for _, number := range []int{least, -1, 0, 1, most} {
		n := whole()
		for i := range n.Devices {
			n.Devices[i] = api.Device{Row: number, Priority: number, Name: "A b\x00", Mac: uint64(number), Vtep: uint32(number) | 1}
		}
		for i := range n.Ports {
			n.Ports[i].Row, n.Ports[i].Cost, n.Ports[i].Name = number, number, ""
		}
		for i := range n.Links {
			n.Links[i].Row = number
		}
		for i := range n.Domains {
			n.Domains[i].Row = number
		}
		for i := range n.Statics {
			n.Statics[i].Row, n.Statics[i].Mac = number, uint64(number)
		}
		for i := range n.Floods {
			n.Floods[i].Row, n.Floods[i].Vni, n.Floods[i].Addrs = number, number, []uint32{uint32(number), 0, uint32(number)}
		}
		for i := range n.Vrfs {
			n.Vrfs[i].Row, n.Vrfs[i].Name = number, "red"
		}
		for i := range n.Irbs {
			n.Irbs[i].Row, n.Irbs[i].Net.Addr = number, uint32(number)
		}
		isRight(t, fmt.Sprint("all others are ", number), n, true)
	}
}

// What lies behind a list's end is none of it.
func TestRightAsksNothingBehindEnds(t *testing.T) {
	n := clone(whole(), 60)
	isRight(t, "spare room", n, true)
	n.Ports[1].Tagged = n.Ports[1].Tagged[:1]
	n.Domains[5].Peers = n.Domains[5].Peers[:0]
	isRight(t, "shorter lists", n, true)
	n = whole()
	n.Irbs = n.Irbs[:3]
	isRight(t, "an Irb behind the end", n, false)
	n = whole()
	n.Domains = n.Domains[:8]
	isRight(t, "a Domain behind the end", n, false)
}

// numbers are what a field is turned to: the ends of all ranges, and the places of all lists.
func numbers() []int {
	l := []int{least, -1 << 24, -2, 10, 20, 24, 30, 31, 32, 33, 40, 47, 48, 4093, 4094, 4095, 5010, 5030, 65535, 65536, 1<<24 - 1, 1 << 24, 1 << 32, most}
	for i := -1; i < 10; i++ {
		l = append(l, i)
	}
	return l
}

// Each field of a net turned to each number, held against the chapter's words.
func TestRightHoldsWithEachFieldTurned(t *testing.T) {
	rights, wrongs := 0, 0
	for what, n := range map[string]api.Net{"the whole": whole(), "the example": example(), "the wide": wide()} {
		for _, l := range leaves(&n) {
			if !l.value.CanInt() {
				continue
			}
			was := l.value.Int()
			for _, number := range numbers() {
				l.value.SetInt(int64(number))
				if rightHeld(t, fmt.Sprintf("%s, %s = %d", what, l.path, number), n) {
					rights++
				} else {
					wrongs++
				}
			}
			l.value.SetInt(was)
		}
	}
	if rights < 1000 || wrongs < 1000 {
		t.Errorf("%d nets may be, %d may not", rights, wrongs)
	}
}

// Two fields of a net turned at once, which may be right together where each one alone is not.
func TestRightHoldsWithTwoFieldsTurned(t *testing.T) {
	n := whole()
	all := leaves(&n)
	all = slices.DeleteFunc(all, func(l leaf) bool { return !l.value.CanInt() })
	draw := draws(1)
	for i, a := range all {
		for _, b := range all[:i] {
			wasA, wasB := a.value.Int(), b.value.Int()
			// Exchanged, and turned to what is drawn.
			for range 2 {
				numberA, numberB := wasB, wasA
				if draw(2) == 0 {
					numberA, numberB = int64(draw(11)-1), int64(draw(11)-1)
				}
				a.value.SetInt(numberA)
				b.value.SetInt(numberB)
				rightHeld(t, fmt.Sprintf("%s = %d, %s = %d", a.path, numberA, b.path, numberB), n)
			}
			a.value.SetInt(wasA)
			b.value.SetInt(wasB)
		}
	}
}

// An item of each list taken out, put there once more, or exchanged with another one.
func TestRightHoldsWithItemsMoved(t *testing.T) {
	for what, start := range map[string]func() api.Net{"the whole": whole, "the example": example, "the wide": wide} {
		n := start()
		for at, l := range lists(&n) {
			for i := range l.value.Len() {
				for j := range l.value.Len() + 1 {
					turned := start()
					v := lists(&turned)[at].value
					kind := "exchanged"
					switch {
					case j == v.Len():
						kind = "put there once more"
						v.Set(reflect.Append(v, v.Index(i)))
					case j == i:
						kind = "taken out"
						v.Set(reflect.AppendSlice(v.Slice3(0, i, i), v.Slice(i+1, v.Len())))
					default:
						reflect.Swapper(v.Interface())(i, j)
					}
					rightHeld(t, fmt.Sprintf("%s, %s[%d] and %d %s", what, l.path, i, j, kind), turned)
				}
			}
		}
	}
}

// Nets in which some things are drawn, held against the chapter's words; some of them may be.
func TestRightHoldsForNetsDrawn(t *testing.T) {
	rights, wrongs := 0, 0
	draw := draws(7)
	for range 4000 {
		n := drawn(draw)
		for range draw(4) {
			all := leaves(&n)
			if l := all[draw(len(all))]; l.value.CanInt() {
				l.value.SetInt(int64(numbers()[draw(len(numbers()))]))
			} else {
				l.turn()
			}
		}
		if rightHeld(t, fmt.Sprintf("%.2000s", fmt.Sprint(n)), n) {
			rights++
		} else {
			wrongs++
		}
	}
	if rights < 500 || wrongs < 500 {
		t.Errorf("%d nets may be, %d may not", rights, wrongs)
	}
}

// drawn is a small net that may be, if what it has goes together.
func drawn(draw func(below int) int) api.Net {
	n := api.Net{Devices: make([]api.Device, 1+draw(3))}
	for d := range n.Devices {
		n.Devices[d].Vtep = uint32(min(draw(6), 1))
		for vlan := range draw(4) {
			n.Domains = append(n.Domains, api.Domain{Dev: d, Vlan: vlan + 1, Vni: draw(3), Irb: -1})
		}
		for range draw(3) {
			n.Vrfs = append(n.Vrfs, api.Vrf{Dev: d, Imports: counted(draw(3))})
		}
	}
	for i, d := range n.Domains {
		if draw(2) == 0 {
			n.Ports = append(n.Ports, api.Port{Dev: d.Dev, Native: d.Vlan, Link: -1})
			n.Statics = append(n.Statics, api.Static{Domain: i, Port: draw(len(n.Ports))})
		} else {
			n.Ports = append(n.Ports, api.Port{Dev: d.Dev, Tagged: []int{d.Vlan}, Link: -1})
		}
		for j, v := range n.Vrfs {
			if n.Domains[i].Irb == -1 && draw(3) == 0 && (v.Dev == d.Dev || draw(20) == 0) {
				n.Domains[i].Irb = len(n.Irbs)
				n.Irbs = append(n.Irbs, api.Irb{Domain: i, Vrf: j, Net: api.Prefix{Bits: 1 + draw(30)}})
			}
		}
		for j, other := range n.Domains[:i] {
			if draw(4) == 0 && other.Vni == d.Vni && (d.Vni > 0 || draw(20) == 0) && (other.Dev != d.Dev || draw(20) == 0) {
				n.Domains[i].Peers, n.Domains[j].Peers = append(n.Domains[i].Peers, j), append(n.Domains[j].Peers, i)
			}
		}
	}
	for i := range n.Ports {
		for j := range i {
			if draw(4) == 0 && n.Ports[i].Link == -1 && n.Ports[j].Link == -1 && (n.Ports[i].Dev != n.Ports[j].Dev || draw(20) == 0) {
				n.Ports[i].Link, n.Ports[j].Link = len(n.Links), len(n.Links)
				n.Links = append(n.Links, api.Link{A: i, B: j})
			}
		}
	}
	return n
}

// Nets of any numbers: all calls end, and nothing is found.
func TestNetsOfAnyNumbers(t *testing.T) {
	draw := draws(3)
	for range 400 {
		n := whole()
		if draw(3) == 0 {
			n = full()
		}
		for _, l := range leaves(&n) {
			if l.value.CanInt() && draw(3) == 0 {
				l.value.SetInt(int64(numbers()[draw(len(numbers()))]))
			}
		}
		rightHeld(t, "any numbers", n)
	}
	for _, number := range numbers() {
		for _, n := range []api.Net{whole(), full(), wide(), example()} {
			for _, l := range leaves(&n) {
				if l.value.CanInt() {
					l.value.SetInt(int64(number))
				}
			}
			rightHeld(t, fmt.Sprint("all are ", number), n)
		}
	}
	long := make([]int, 1<<20)
	for i := range long {
		long[i] = i % 9
	}
	n := whole()
	n.Ports[0].Tagged, n.Domains[0].Peers, n.Domains[2].Peers = long, long, long
	if names.Right(n) {
		t.Error("long lists")
	}
}
