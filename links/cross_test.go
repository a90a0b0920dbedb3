package links_test

import (
	"fmt"
	"maps"
	"slices"
	"testing"

	"paling/api"
	"paling/links"
	"paling/names"
)

// P17.2, P17.3, P17.4

// form is what both ends of a link have, and what crosses it: of each VLAN that does what it is on the other side.
type form struct {
	what      string
	ends      [2]end
	out, back map[int]int
}

// allForms are links of which each VLAN is native, tagged or neither on the one side and on the other one.
func allForms() []form {
	return []form{
		{"the chapter's example", [2]end{{10, []int{20}}, {30, []int{20}}}, map[int]int{20: 20, 10: 30}, map[int]int{20: 20, 30: 10}},
		{"two access ports of one VLAN", [2]end{{10, nil}, {10, nil}}, map[int]int{10: 10}, map[int]int{10: 10}},
		{"two access ports of unlike VLANs", [2]end{{10, nil}, {20, nil}}, map[int]int{10: 20}, map[int]int{20: 10}},
		{"the ends of all VLANs", [2]end{{1, nil}, {4094, nil}}, map[int]int{1: 4094}, map[int]int{4094: 1}},
		{"two trunks alike", [2]end{{0, []int{10, 20}}, {0, []int{10, 20}}}, map[int]int{10: 10, 20: 20}, map[int]int{10: 10, 20: 20}},
		{"two trunks of one VLAN in common", [2]end{{0, []int{10, 20}}, {0, []int{20, 30}}}, map[int]int{20: 20}, map[int]int{20: 20}},
		{"two trunks of the least VLAN in common", [2]end{{0, []int{10, 20}}, {0, []int{10, 30}}}, map[int]int{10: 10}, map[int]int{10: 10}},
		{"two trunks of nothing in common", [2]end{{0, []int{10, 20}}, {0, []int{15, 30}}}, nil, nil},
		{"a native VLAN on the first side alone", [2]end{{10, []int{20}}, {0, []int{20}}}, map[int]int{20: 20}, map[int]int{20: 20}},
		{"a native VLAN on the second side alone", [2]end{{0, []int{20}}, {10, []int{20}}}, map[int]int{20: 20}, map[int]int{20: 20}},
		{"native here, tagged there", [2]end{{10, nil}, {0, []int{10}}}, nil, nil},
		{"tagged here, native there", [2]end{{0, []int{10}}, {10, nil}}, nil, nil},
		{"native here, tagged there beside another native one", [2]end{{10, nil}, {20, []int{10}}}, map[int]int{10: 20}, map[int]int{20: 10}},
		{"tagged here, native there beside another native one", [2]end{{20, []int{10}}, {10, nil}}, map[int]int{20: 10}, map[int]int{10: 20}},
		{"native and tagged exchanged", [2]end{{10, []int{20, 30}}, {20, []int{10, 30}}}, map[int]int{10: 20, 30: 30}, map[int]int{20: 10, 30: 30}},
		{"an access port and a trunk without a native VLAN", [2]end{{10, nil}, {0, []int{20, 30}}}, nil, nil},
		{"an access port and a trunk with another native VLAN", [2]end{{4094, nil}, {1, []int{2, 4093}}}, map[int]int{4094: 1}, map[int]int{1: 4094}},
		{"one native VLAN, others tagged", [2]end{{20, []int{10, 30, 4094}}, {20, []int{1, 30, 4094}}}, map[int]int{20: 20, 30: 30, 4094: 4094}, map[int]int{20: 20, 30: 30, 4094: 4094}},
		{"tagged on one side alone", [2]end{{10, []int{20, 30, 40}}, {10, nil}}, map[int]int{10: 10}, map[int]int{10: 10}},
		{"the least and the greatest VLAN tagged", [2]end{{0, []int{1, 4094}}, {10, []int{1, 4094}}}, map[int]int{1: 1, 4094: 4094}, map[int]int{1: 1, 4094: 4094}},
	}
}

// forms is a net of links of all forms, twenty of them.
func forms() api.Net {
	var pairs [][2]end
	for _, f := range allForms() {
		pairs = append(pairs, f.ends)
	}
	return joined(pairs...)
}

// anyVlans are the VLANs of the tests' nets, those that lie beside them, and numbers that are none.
func anyVlans() []int {
	return []int{least, -1<<32 + 10, -4094, -20, -10, -2, -1, 0, 1, 2, 3, 4, 5, 9, 10, 11, 15, 19, 20, 21, 29, 30, 31, 40, 41, 4092, 4093, 4094, 4095, 4096, 65535, 1<<16 + 10, 1<<32 + 10, most}
}

// anyPlaces are places of a list of so many, the ones beside them, and numbers far off.
func anyPlaces(count int) []int {
	l := []int{least, -1 << 32, -41, -2, -1}
	for i := range count + 3 {
		l = append(l, i)
	}
	return append(l, 40, 41, 1<<16, 1<<32, most)
}

func TestTheChaptersExample(t *testing.T) {
	n := api.Net{
		Devices: []api.Device{{Name: "a", Mac: 1}, {Name: "b", Mac: 2}},
		Ports:   []api.Port{{Native: 10, Link: -1, Name: "p", Tagged: []int{20}}, {Dev: 1, Native: 30, Link: -1, Name: "p", Tagged: []int{20}}},
		Domains: []api.Domain{{Vlan: 10, Irb: -1}, {Vlan: 20, Irb: -1}, {Dev: 1, Vlan: 30, Irb: -1}, {Dev: 1, Vlan: 20, Irb: -1}},
	}
	stays(t, "not linked", n, 0, 20)
	n, e := links.Add(n, link("a", "p", "b", "p"))
	if e != ok {
		t.Fatal(e)
	}
	crosses(t, "20", n, 0, 20, 1, 20, 3)
	crosses(t, "20 back", n, 1, 20, 0, 20, 1)
	crosses(t, "10", n, 0, 10, 1, 30, 2)
	crosses(t, "30 back", n, 1, 30, 0, 10, 0)
	stays(t, "30 from where it is none", n, 0, 30)
	stays(t, "10 from where it is none", n, 1, 10)
}

// isForm asks what crosses the link of those two ports, of all VLANs.
func isForm(t *testing.T, n api.Net, f form, near, far int) {
	t.Helper()
	isOther(t, f.what, n, near, far)
	isOther(t, f.what, n, far, near)
	for _, vlan := range anyVlans() {
		for _, side := range []struct {
			from, into int
			to         map[int]int
		}{{near, far, f.out}, {far, near, f.back}} {
			to, ok := side.to[vlan]
			if !ok {
				stays(t, f.what, n, side.from, vlan)
				continue
			}
			crosses(t, f.what, n, side.from, vlan, side.into, to, slices.IndexFunc(n.Domains, func(d api.Domain) bool { return d.Dev == n.Ports[side.into].Dev && d.Vlan == to }))
		}
	}
}

// Each form by itself, whichever of both ports is the link's A, and in a net that has them all.
func TestFormsOfLinks(t *testing.T) {
	all := forms()
	for i, f := range allForms() {
		n := joined(f.ends)
		isForm(t, n, f, 0, 1)
		n.Links[0].A, n.Links[0].B = 1, 0
		isForm(t, n, f, 0, 1)
		isForm(t, all, f, 2*i, 2*i+1)
	}
}

// Each VLAN there can be, native and tagged.
func TestEachVlanCrosses(t *testing.T) {
	for vlan := 1; vlan <= mostVlan; vlan++ {
		for next := range 2 {
			other := 1 + (vlan+next*2046)%mostVlan
			n := joined([2]end{{vlan, []int{other}}, {other, []int{vlan}}}, [2]end{{0, []int{vlan}}, {other, []int{vlan}}})
			if !names.Right(n) {
				t.Fatalf("%+v may not be", n)
			}
			crosses(t, "native", n, 0, vlan, 1, other, names.Domain(n, 1, other))
			crosses(t, "native, back", n, 1, other, 0, vlan, names.Domain(n, 0, vlan))
			stays(t, "native there", n, 0, other)
			stays(t, "native there, back", n, 1, vlan)
			crosses(t, "tagged", n, 2, vlan, 3, vlan, names.Domain(n, 1, vlan))
			crosses(t, "tagged, back", n, 3, vlan, 2, vlan, names.Domain(n, 0, vlan))
			stays(t, "native on one side", n, 3, other)
			stays(t, "none on this side", n, 2, other)
		}
	}
}

// 0 is no VLAN, though it is what a port has that has no native one: on neither side, on one, and on both.
func TestNoVlanDoesNotCross(t *testing.T) {
	for _, here := range []end{{0, []int{10}}, {10, nil}, {20, []int{10}}} {
		for _, there := range []end{{0, []int{10}}, {10, nil}, {30, []int{10}}} {
			n := joined([2]end{here, there})
			for port := range 2 {
				for _, vlan := range []int{least, -10, -1, 0, 4095, 4096, 1<<16 + 10, 1<<32 + 10, most} {
					stays(t, fmt.Sprint(here, there), n, port, vlan)
				}
			}
		}
	}
}

// A place below the first one, the last one, one past it, and ends of the numbers; a port without a link.
func TestOtherOfAnyPlace(t *testing.T) {
	n := whole()
	for i, want := range []int{-1, 2, 1, 4, 3, -1, -1} {
		isOther(t, "the whole", n, i, want)
	}
	full := ladder(mostLinks, mostPorts)
	isOther(t, "the first port", full, 0, 1)
	isOther(t, "the last port", full, 39, 38)
	for of, n := range goods() {
		for _, port := range anyPlaces(len(n.Ports)) {
			isOther(t, of, n, port, saidOther(n, port))
			if port < 0 || port >= len(n.Ports) || n.Ports[port].Link == -1 {
				isOther(t, of, n, port, -1)
				for _, vlan := range anyVlans() {
					stays(t, of, n, port, vlan)
				}
			}
		}
	}
	// What lies behind the lists' ends is none: the last two ports, and their link.
	full.Ports, full.Links = full.Ports[:38], full.Links[:19]
	isOther(t, "a port behind the end", full, 38, -1)
	isOther(t, "the last port now", full, 37, 36)
	stays(t, "a port behind the end", full, 39, 10)
}

// Of a net that may not be nothing is told, whichever rule it breaks; no call panics, whatever places it has.
func TestNothingCrossesInWrongNets(t *testing.T) {
	for _, f := range faults() {
		n := whole()
		f.turn(&n)
		for _, port := range anyPlaces(7) {
			isOther(t, f.what, n, port, -1)
			for _, vlan := range anyVlans() {
				stays(t, f.what, n, port, vlan)
			}
		}
	}
	for _, n := range []api.Net{ladder(21, 42), {Ports: make([]api.Port, 2)}, {Ports: make([]api.Port, 2), Links: []api.Link{{A: 0, B: 1}}}} {
		isOther(t, "a wrong net", n, 0, -1)
		isOther(t, "a wrong net", n, 1, -1)
		stays(t, "a wrong net", n, 0, 10)
		stays(t, "a wrong net", n, 0, 0)
	}
}

// What lies behind the end of a port's VLANs is none of them: on the one side, on the other one, and on both.
func TestVlansBehindEndsDoNotCross(t *testing.T) {
	three := func() []int { return []int{10, 20, 30} }
	for what, ends := range map[string][2][]int{
		"the near side": {three()[:1], three()}, "the far side": {three(), three()[:1]}, "both sides": {three()[:1], three()[:1]}, "one more there": {three()[:1], three()[:2]},
	} {
		n := joined([2]end{{1, three()}, {2, three()}})
		n.Ports[0].Tagged, n.Ports[1].Tagged = ends[0], ends[1]
		for port := range 2 {
			crosses(t, what, n, port, 10, 1-port, 10, names.Domain(n, 1-port, 10))
			stays(t, what, n, port, 20)
			stays(t, what, n, port, 30)
		}
	}
}

// Each place and each VLAN of each net, held against what the chapter says.
func TestCrossesAsTheChapterSays(t *testing.T) {
	for of, n := range goods() {
		for _, port := range anyPlaces(len(n.Ports)) {
			for _, vlan := range anyVlans() {
				isLaid(t, of, n, port, vlan)
			}
		}
	}
}

// The domain is the one of the far port's device: each device has a domain of each VLAN, in an order of its own.
func TestDomainIsTheFarDevices(t *testing.T) {
	n := row(4)
	for _, order := range [][]int{{2, 20}, {0, 10}, {3, 10}, {1, 20}, {1, 10}, {0, 20}, {2, 10}, {3, 20}} {
		n.Domains = append(n.Domains, api.Domain{Dev: order[0], Vlan: order[1], Irb: -1})
	}
	for dev := range 4 {
		n.Ports = append(n.Ports, api.Port{Dev: dev, Native: 10, Tagged: []int{20}, Link: -1, Name: "p"}, api.Port{Dev: dev, Native: 20, Tagged: []int{10}, Link: -1, Name: "q"})
	}
	for i, l := range []api.Line{link("sw1", "p", "sw2", "p"), link("sw2", "q", "sw3", "p"), link("sw4", "q", "sw3", "q"), link("sw4", "p", "sw1", "q")} {
		var e api.Errno
		if n, e = links.Add(n, l); e != ok {
			t.Fatalf("link %d: %d", i, e)
		}
	}
	crosses(t, "sw1 to sw2", n, 0, 10, 2, 10, 4)
	crosses(t, "sw1 to sw2", n, 0, 20, 2, 20, 3)
	crosses(t, "sw2 to sw1", n, 2, 10, 0, 10, 1)
	crosses(t, "sw2 to sw1", n, 2, 20, 0, 20, 5)
	crosses(t, "sw2 to sw3", n, 3, 20, 4, 10, 6)
	crosses(t, "sw3 to sw2", n, 4, 10, 3, 20, 3)
	stays(t, "10 of q is tagged, of p it is not", n, 3, 10)
	crosses(t, "sw3 to sw4", n, 5, 20, 7, 20, 7)
	crosses(t, "sw3 to sw4", n, 5, 10, 7, 10, 2)
	crosses(t, "sw4 to sw3", n, 7, 20, 5, 20, 0)
	crosses(t, "sw4 to sw1", n, 6, 10, 1, 20, 5)
	crosses(t, "sw1 to sw4", n, 1, 20, 6, 10, 2)
}

// What is told of a VLAN hangs on no other one of the net's parts: its peers, static entries, flood lists, VRFs and interfaces may go.
func TestCrossAsksNothingElse(t *testing.T) {
	n := whole()
	few := api.Net{Devices: n.Devices, Ports: n.Ports, Links: n.Links}
	for _, d := range n.Domains {
		few.Domains = append(few.Domains, api.Domain{Dev: d.Dev, Vlan: d.Vlan, Irb: -1})
	}
	for port := range n.Ports {
		for _, vlan := range anyVlans() {
			isLaid(t, "the whole", n, port, vlan)
			isLaid(t, "the whole without the rest", few, port, vlan)
		}
	}
	crosses(t, "tagged 10", n, 1, 10, 2, 10, 3)
	crosses(t, "tagged 30", n, 2, 30, 1, 30, 2)
	stays(t, "native 20", n, 1, 20)
	crosses(t, "native 30", n, 3, 30, 4, 40, 8)
	crosses(t, "native 40", n, 4, 40, 3, 30, 4)
}

// turnsBack asks of all that crosses from a port that it crosses back to where it was, and that unlike VLANs cross to unlike ones; it tells how many cross.
func turnsBack(t *testing.T, what string, n api.Net, port int) int {
	t.Helper()
	from := map[int]int{}
	domains := map[int]int{}
	for _, vlan := range anyVlans() {
		far, to, ok := links.Cross(n, port, vlan)
		if !ok {
			continue
		}
		if back, was, ok := links.Cross(n, far, to); back != port || was != vlan || !ok {
			t.Fatalf("%s: the VLAN %d of the port %d crosses to %d of %d, and that back to %d of %d, %v", what, vlan, port, to, far, was, back, ok)
		}
		if links.Other(n, port) != far || links.Other(n, far) != port || far == port {
			t.Fatalf("%s: the port %d crosses to %d", what, port, far)
		}
		if one, twice := from[to]; twice {
			t.Fatalf("%s: the VLANs %d and %d of the port %d cross to %d", what, one, vlan, port, to)
		}
		from[to] = vlan
		domain, _ := links.Domain(n, port, vlan)
		if one, twice := domains[domain]; twice {
			t.Fatalf("%s: the VLANs %d and %d of the port %d cross to the domain %d", what, one, vlan, port, domain)
		}
		domains[domain] = vlan
		if !names.Member(n.Ports[port], vlan) || !slices.Contains(names.Members(n, domain), far) {
			t.Fatalf("%s: the VLAN %d of the port %d crosses to %d of %d, which does not have it", what, vlan, port, to, far)
		}
		if home, ok := links.Domain(n, far, to); !ok || home != names.Domain(n, n.Ports[port].Dev, vlan) {
			t.Fatalf("%s: the VLAN %d of the port %d comes back to the domain %d, %v", what, vlan, port, home, ok)
		}
	}
	return len(from)
}

// P17.4, over nets of all kinds, and over ones that are drawn.
func TestWhatCrossesTurnsBack(t *testing.T) {
	for of, n := range goods() {
		for port := range n.Ports {
			turnsBack(t, of, n, port)
		}
	}
	var count [8]int
	for seed := range 200 {
		n := drawn(draws(uint64(seed)))
		for port := range n.Ports {
			count[turnsBack(t, fmt.Sprint("seed ", seed), n, port)]++
		}
	}
	for crossing, ports := range count[:5] {
		if ports < 20 {
			t.Errorf("%d ports have %d VLANs that cross", ports, crossing)
		}
	}
}

// Nets that are drawn, each port and VLAN held against what the chapter says.
func TestDrawnNetsAsTheChapterSays(t *testing.T) {
	for seed := range 60 {
		n := drawn(draws(uint64(1000 + seed)))
		for port := -1; port <= len(n.Ports); port++ {
			for _, vlan := range []int{-1, 0, 1, 2, 10, 20, 30, 4093, 4094, 4095} {
				isLaid(t, fmt.Sprint("seed ", seed), n, port, vlan)
			}
		}
	}
}

// The forms of the tests have each of the nine kinds: a VLAN that is native, tagged or neither here, and native, tagged or neither there.
func TestFormsAreOfEachKind(t *testing.T) {
	kinds := map[string]int{}
	of := func(e end, vlan int) string {
		switch {
		case e.native == vlan:
			return "native"
		case slices.Contains(e.tagged, vlan):
			return "tagged"
		}
		return "neither"
	}
	for _, f := range allForms() {
		for vlan := 1; vlan <= mostVlan; vlan++ {
			kinds[of(f.ends[0], vlan)+" "+of(f.ends[1], vlan)]++
		}
	}
	if len(kinds) != 9 {
		t.Errorf("%v", slices.Sorted(maps.Keys(kinds)))
	}
}
