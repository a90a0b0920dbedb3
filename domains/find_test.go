package domains_test

import (
	"fmt"
	"math"
	"slices"
	"strings"
	"testing"

	"paling/api"
	"paling/domains"
	"paling/names"
)

// P18.2, P18.3

// A place below the first one, the last one and one past it; an address that is looked up in another domain, and one that is none's.
func TestLookupOfAnyPlace(t *testing.T) {
	n := whole()
	leads(t, "the first entry", n, 0, 7, 1)
	leads(t, "an entry between", n, 1, 8, 1)
	leads(t, "a further one", n, 6, 9, 5)
	leads(t, "the last entry, of the address 0", n, 7, 0, 6)
	for _, domain := range anyPlaces(len(n.Domains)) {
		for _, mac := range anyMacs() {
			want := -1
			switch {
			case domain == 0 && mac == 7, domain == 1 && mac == 8:
				want = 1
			case domain == 6 && mac == 9:
				want = 5
			case domain == 7 && mac == 0:
				want = 6
			}
			leads(t, "the whole", n, domain, mac, want)
		}
	}
	// The first domain and the last one have entries, those beside them are none.
	n = filled(mostStatics)
	leads(t, "the first domain", n, 0, 1, 0)
	leads(t, "below the first domain", n, -1, 1, -1)
	leads(t, "the last domain", n, 5, 6, 2)
	leads(t, "past the last domain", n, 6, 6, -1)
	leads(t, "the last entry", n, 3, 64, 2)
	leads(t, "an address past the last one", n, 3, 65, -1)
	for i, s := range n.Statics {
		for domain := range n.Domains {
			want := -1
			if domain == i%6 {
				want = s.Port
			}
			leads(t, "one address in each domain", n, domain, s.Mac, want)
		}
	}
}

// Of several entries of one domain and address the first one is taken, wherever it stands, and though others lead to other ports.
func TestLookupOfTheFirstOfSeveral(t *testing.T) {
	n := filled(0)
	entries := []api.Static{{Domain: 0, Port: 1, Mac: 9}, {Domain: 0, Port: 0, Mac: 9}, {Domain: 3, Port: 2, Mac: 9}, {Domain: 0, Port: 1, Mac: 8}, {Domain: 0, Port: 1, Mac: 9}, {Domain: 3, Port: 3, Mac: 9}}
	for _, order := range [][]int{{0, 1, 2, 3, 4, 5}, {1, 0, 5, 2, 3, 4}, {3, 2, 1, 0, 4, 5}, {2, 3, 4, 5, 1, 0}, {5, 2, 3, 1, 4, 0}} {
		n.Statics = nil
		want := map[api.Static]int{}
		for _, at := range order {
			s := entries[at]
			n.Statics = append(n.Statics, s)
			key := api.Static{Domain: s.Domain, Mac: s.Mac}
			if _, there := want[key]; !there {
				want[key] = s.Port
			}
		}
		for key, port := range want {
			leads(t, fmt.Sprint(order), n, key.Domain, key.Mac, port)
		}
		leads(t, fmt.Sprint(order), n, 3, 8, -1)
		leads(t, fmt.Sprint(order), n, 1, 9, -1)
	}
}

// An address is looked up as a whole number: a net may have ones of more than 48 bits.
func TestLookupOfGreatAddresses(t *testing.T) {
	n := filled(0)
	macs := []uint64{7, 1<<48 | 7, 1 << 63, 0, math.MaxUint64, 1<<40 | 7, 1<<32 | 7}
	for i, mac := range macs {
		n.Statics = append(n.Statics, api.Static{Domain: 0, Port: i % 2, Mac: mac})
	}
	for i, mac := range macs {
		leads(t, "an address that is there", n, 0, mac, i%2)
		leads(t, "an address that is not there", n, 0, mac^1<<52, -1)
	}
}

// What lies behind the ends of the entries is none.
func TestLookupBehindTheEnd(t *testing.T) {
	n := filled(12)
	n.Statics = n.Statics[:6]
	leads(t, "the last one now", n, 5, 6, 2)
	leads(t, "one behind the end", n, 0, 7, -1)
	n.Statics = n.Statics[:0]
	leads(t, "all behind the end", n, 0, 1, -1)
}

// Ports with a link and without one, of other devices and other VLANs, in their order; none.
func TestHosts(t *testing.T) {
	n := whole()
	for domain, want := range [][]int{{0}, {}, {}, {}, {}, {5}, {5}, {6}, {5}} {
		hosts(t, "the whole", n, domain, want...)
	}
	n = mixed()
	for domain, want := range [][]int{
		{6, 14}, {7, 15}, // 4094
		{9, 13}, {8, 12}, // 7: the ports 1 and 5 of each are linked
		{}, {}, // 1
		{11}, {10}, // 700
		{8}, {9}, // 70
		{}, {}, // 999
	} {
		hosts(t, "ports of each kind", n, domain, want...)
	}
	// The same ports without links.
	n.Links = nil
	for i := range n.Ports {
		n.Ports[i].Link = -1
	}
	for domain, want := range [][]int{
		{4, 6, 14}, {5, 7, 15},
		{1, 3, 5, 9, 13}, {0, 2, 4, 8, 12},
		{}, {},
		{3, 5, 11}, {2, 4, 10},
		{2, 4, 8}, {3, 5, 9},
		{}, {},
	} {
		hosts(t, "ports without links", n, domain, want...)
	}
	n = met()
	for dev := range 3 {
		for vlan := range 4 {
			hosts(t, "the net of peers", n, 4*dev+vlan, 3*dev, 3*dev+1, 3*dev+2)
		}
	}
	hosts(t, "no domain", api.Net{}, 0)
	hosts(t, "no ports", api.Net{Devices: make([]api.Device, 1), Domains: []api.Domain{{Vlan: 10, Irb: -1}}}, 0)
}

// The link of the place 0 is one as any other: each port of a domain is linked in its turn.
func TestHostsOfEachPortLinked(t *testing.T) {
	n := row(2)
	n.Domains = []api.Domain{{Vlan: 10, Irb: -1}, {Dev: 1, Vlan: 10, Irb: -1}}
	for i := range mostPorts {
		n.Ports = append(n.Ports, api.Port{Dev: i % 2, Native: 10, Link: -1, Name: fmt.Sprint("p", i)})
	}
	even, odd := []int{}, []int{}
	for i := 0; i < mostPorts; i += 2 {
		even, odd = append(even, i), append(odd, i+1)
	}
	for len(even) > 0 {
		hosts(t, "the first device", n, 0, even...)
		hosts(t, "the second device", n, 1, odd...)
		// One from the middle of the one, and from the end of the other one.
		a, b := len(even)/2, len(odd)-1
		n.Ports[even[a]].Link, n.Ports[odd[b]].Link = len(n.Links), len(n.Links)
		n.Links = append(n.Links, api.Link{A: even[a], B: odd[b]})
		even, odd = slices.Delete(even, a, a+1), slices.Delete(odd, b, b+1)
	}
	hosts(t, "all ports linked", n, 0)
	hosts(t, "all ports linked, the second device", n, 1)
}

// A port has a VLAN natively, tagged, or not.
func TestHostsOfEachVlan(t *testing.T) {
	for vlan := 2; vlan < mostVlan; vlan++ {
		n := row(1)
		n.Ports = []api.Port{{Native: vlan, Link: -1}, {Native: vlan - 1, Tagged: []int{vlan}, Link: -1}, {Tagged: []int{vlan - 1, vlan, vlan + 1}, Link: -1}, {Native: vlan + 1, Link: -1}}
		for _, one := range []int{vlan + 1, vlan - 1, vlan} {
			n.Domains = append(n.Domains, api.Domain{Vlan: one, Irb: -1})
		}
		hosts(t, "the VLAN above", n, 0, 2, 3)
		hosts(t, "the VLAN below", n, 1, 1, 2)
		hosts(t, "the VLAN", n, 2, 0, 1, 2)
	}
}

// What lies behind the ends of the ports, of a port's VLANs and of the domains is none.
func TestHostsBehindEnds(t *testing.T) {
	n := filled(0)
	hosts(t, "all of it", n, 3, 2, 3)
	hosts(t, "the last domain", n, 5, 2)
	n.Ports[2].Tagged = n.Ports[2].Tagged[:1]
	hosts(t, "a VLAN behind the end", n, 5)
	n.Ports = n.Ports[:3]
	hosts(t, "a port behind the end", n, 3, 2)
	n.Ports[2].Tagged = nil
	n.Domains = n.Domains[:4]
	hosts(t, "a domain behind the end", n, 4)
	reads(t, "a domain behind the end", n, 4, "")
	reads(t, "the last one now", n, 3, "sw2/10")
}

// A text has the name of the domain's own device, and its VLAN in as many digits as it has.
func TestText(t *testing.T) {
	n := whole()
	for domain, want := range []string{"a/10", "a/20", "a/30", "b/10", "b/30", "c/1", "c/4094", "d/10", "c/40"} {
		reads(t, "the whole", n, domain, want)
	}
	n = row(2)
	for i, vlan := range []int{1, 9, 10, 99, 100, 999, 1000, 4094} {
		n.Domains = append(n.Domains, api.Domain{Dev: i % 2, Vlan: vlan, Irb: -1})
	}
	for domain, want := range []string{"sw1/1", "sw2/9", "sw1/10", "sw2/99", "sw1/100", "sw2/999", "sw1/1000", "sw2/4094"} {
		reads(t, "one to four digits", n, domain, want)
	}
	// What else a domain has is not in it.
	n = met()
	reads(t, "a domain of a mesh", n, 0, "sw1/1")
	reads(t, "the last domain of a mesh", n, 11, "sw3/4")
}

// Each VLAN there can be, and names of any bytes, none too.
func TestTextOfEachVlanAndName(t *testing.T) {
	n := row(1)
	n.Domains = []api.Domain{{Irb: -1}}
	for vlan := 1; vlan <= mostVlan; vlan++ {
		n.Domains[0].Vlan = vlan
		reads(t, "a VLAN", n, 0, fmt.Sprintf("sw1/%d", vlan))
	}
	for _, word := range []string{"", "a", "abcdefghijkl", "A", "a/b", "/", "10", " ", "a\x00\xff", "\u00e9", strings.Repeat("long", 1000)} {
		n.Devices[0].Name = word
		reads(t, "a name", n, 0, word+"/4094")
	}
	reads(t, "no names", bare(), 0, "/1")
}

// A place below the first one, the last one, one past it, and ends of the numbers.
func TestHostsAndTextOfAnyPlace(t *testing.T) {
	for of, n := range goods() {
		for _, domain := range anyPlaces(len(n.Domains)) {
			isTold(t, of, n, domain)
			if domain < 0 || domain >= len(n.Domains) {
				hosts(t, of, n, domain)
				reads(t, of, n, domain, "")
				for _, mac := range anyMacs() {
					leads(t, of, n, domain, mac, -1)
				}
			}
		}
	}
	n := filled(0)
	for i, want := range map[int]string{least: "", -1: "", 0: "sw1/10", 5: "sw2/30", 6: "", 7: "", most: ""} {
		reads(t, "six domains", n, i, want)
	}
}

// Of a net that may not be nothing is told, whichever rule it breaks; no call panics, whatever places it has.
func TestNothingIsToldOfWrongNets(t *testing.T) {
	nothing := func(what string, n api.Net) {
		t.Helper()
		for _, domain := range anyPlaces(9) {
			hosts(t, what, n, domain)
			reads(t, what, n, domain, "")
			for _, mac := range anyMacs() {
				leads(t, what, n, domain, mac, -1)
			}
		}
	}
	for _, f := range faults() {
		n := whole()
		f.turn(&n)
		nothing(f.what, n)
	}
	nothing("65 static entries", filled(65))
	nothing("a domain of no device", api.Net{Domains: []api.Domain{{Vlan: 10, Irb: -1}}})
	nothing("an entry of nothing", api.Net{Statics: make([]api.Static, 1)})
	nothing("a port of nothing", api.Net{Ports: make([]api.Port, 1)})
	nothing("a device too many", row(9))
}

// Nets that are drawn, each place held against what the chapter says.
func TestDrawnNetsAsTheChapterSays(t *testing.T) {
	found, missed, several, some, none := 0, 0, 0, 0, 0
	for seed := range 150 {
		n := drawn(draws(uint64(1000 + seed)))
		for domain := -1; domain <= len(n.Domains); domain++ {
			isTold(t, fmt.Sprint("seed ", seed), n, domain)
			if domain < 0 || domain == len(n.Domains) {
				continue
			}
			for _, mac := range anyMacs() {
				ports := map[int]bool{}
				for _, s := range n.Statics {
					if s.Domain == domain && s.Mac == mac {
						ports[s.Port] = true
					}
				}
				switch len(ports) {
				case 0:
					missed++
				case 1:
					found++
				default:
					several++
				}
			}
			if len(domains.Hosts(n, domain)) < len(names.Members(n, domain)) {
				some++
			} else {
				none++
			}
		}
	}
	for what, count := range map[string]int{"addresses found": found, "addresses missed": missed, "addresses of several ports": several, "domains with links": some, "domains without links": none} {
		if count < 100 {
			t.Errorf("%d %s", count, what)
		}
	}
}

// What is told of a domain's ports and of its text hangs on no other of the net's parts, nor what is looked up: all else may go.
func TestFindingAsksNothingElse(t *testing.T) {
	n := whole()
	few := api.Net{Devices: n.Devices, Ports: n.Ports, Links: n.Links, Statics: n.Statics}
	for _, d := range n.Domains {
		few.Domains = append(few.Domains, api.Domain{Dev: d.Dev, Vlan: d.Vlan, Irb: -1})
	}
	for domain := range n.Domains {
		isTold(t, "the whole", n, domain)
		isTold(t, "the whole without the rest", few, domain)
	}
	leads(t, "without the rest", few, 6, 9, 5)
	hosts(t, "without the rest", few, 8, 5)
	reads(t, "without the rest", few, 8, "c/40")
}
