package names_test

import (
	"fmt"
	"reflect"
	"slices"
	"testing"
	"unsafe"

	"paling/api"
	"paling/names"
)

// P15.2, P15.5

func TestTheChaptersExample(t *testing.T) {
	n := example()
	isPlace(t, "Device", names.Device(n, "a"), 0)
	isPlace(t, "Port", names.Port(n, 0, "p"), 0)
	isPlace(t, "Domain", names.Domain(n, 0, 10), 0)
	areMembers(t, "Members", names.Members(n, 0), []int{0})
}

func TestFindsOfTheWhole(t *testing.T) {
	n := whole()
	for i, name := range []string{"a", "b", "c", "d"} {
		isPlace(t, "Device "+name, names.Device(n, name), i)
	}
	for i, p := range []struct {
		dev  int
		name string
	}{{0, "p1"}, {0, "p2"}, {1, "p1"}, {1, "p2"}, {2, "p1"}, {2, "p2"}, {3, "p1"}} {
		isPlace(t, fmt.Sprint("Port ", p), names.Port(n, p.dev, p.name), i)
	}
	for i, d := range [][2]int{{0, 10}, {0, 20}, {0, 30}, {1, 10}, {1, 30}, {2, 1}, {2, 4094}, {3, 10}, {2, 40}} {
		isPlace(t, fmt.Sprint("Domain ", d), names.Domain(n, d[0], d[1]), i)
	}
	isPlace(t, "Vrf red of 0", names.Vrf(n, 0, "red"), 0)
	isPlace(t, "Vrf red of 1", names.Vrf(n, 1, "red"), 1)
	isPlace(t, "Vrf blue of 0", names.Vrf(n, 0, "blue"), 2)
	isPlace(t, "Vrf blue of 3", names.Vrf(n, 3, "blue"), 3)
	// What is there, but of other devices.
	isPlace(t, "Port p2 of 3", names.Port(n, 3, "p2"), -1)
	isPlace(t, "Domain 20 of 1", names.Domain(n, 1, 20), -1)
	isPlace(t, "Vrf blue of 1", names.Vrf(n, 1, "blue"), -1)
	isPlace(t, "Vrf red of 2", names.Vrf(n, 2, "red"), -1)
	// The names of one kind are none of another one's.
	isPlace(t, "Device p1", names.Device(n, "p1"), -1)
	isPlace(t, "Device red", names.Device(n, "red"), -1)
	isPlace(t, "Port a", names.Port(n, 0, "a"), -1)
	isPlace(t, "Port red", names.Port(n, 0, "red"), -1)
	isPlace(t, "Vrf p1", names.Vrf(n, 0, "p1"), -1)
	isPlace(t, "Vrf a", names.Vrf(n, 0, "a"), -1)
}

// The first of two of one name, on one device and on several ones.
func TestFindsTheFirst(t *testing.T) {
	n := twins()
	isPlace(t, "Device a", names.Device(n, "a"), 0)
	isPlace(t, "Device b", names.Device(n, "b"), 1)
	// Ports and Vrfs 0 to 3 lie on the devices 0, 3, 2 and 1, the next four again, under another name, and so on.
	for i, dev := range []int{0, 3, 2, 1} {
		isPlace(t, "Port p", names.Port(n, dev, "p"), i)
		isPlace(t, "Port q", names.Port(n, dev, "q"), i+4)
		isPlace(t, "Vrf q", names.Vrf(n, dev, "q"), i)
		isPlace(t, "Vrf r", names.Vrf(n, dev, "r"), i+4)
		isPlace(t, "Domain 10", names.Domain(n, dev, 10), 2*(3-dev))
		isPlace(t, "Domain 20", names.Domain(n, dev, 20), 2*(3-dev)+1)
	}
	all := api.Net{Devices: make([]api.Device, 3), Vrfs: make([]api.Vrf, 3)}
	isPlace(t, "Device without a name", names.Device(all, ""), 0)
	isPlace(t, "Vrf without a name", names.Vrf(all, 0, ""), 0)
	all.Devices[0].Name, all.Vrfs[0].Name = "a", "a"
	isPlace(t, "a later Device without a name", names.Device(all, ""), 1)
	isPlace(t, "a later Vrf without a name", names.Vrf(all, 0, ""), 1)
}

// What is found has the name that it was looked for by, and none ahead has; where none is found there is none. Each name, each device and each VLAN, those that are none, too.
func TestFindsHaveTheNames(t *testing.T) {
	texts := []string{"", " ", "a", "A", "b", "c", "d", "p", "p1", "p2", "p3", "p10", "1", "q", "r", "red", "re", "redd", "Red", "red ", "blue", "n0", "n1", "n7", "n8", "\x00", "a\x00", "\xff", "none"}
	for what, n := range goods() {
		for _, s := range texts {
			isPlace(t, what+": Device "+s, names.Device(n, s), slices.IndexFunc(n.Devices, func(d api.Device) bool { return d.Name == s }))
		}
		for _, dev := range []int{least, -2, -1, 0, 1, 2, 3, 4, 5, 7, 8, 9, 40, 1 << 32, most} {
			for _, s := range texts {
				isPlace(t, fmt.Sprint(what, ": Port ", dev, s), names.Port(n, dev, s), slices.IndexFunc(n.Ports, func(p api.Port) bool { return p.Dev == dev && p.Name == s }))
				isPlace(t, fmt.Sprint(what, ": Vrf ", dev, s), names.Vrf(n, dev, s), slices.IndexFunc(n.Vrfs, func(v api.Vrf) bool { return v.Dev == dev && v.Name == s }))
			}
			for _, vlan := range []int{least, -10, -1, 0, 1, 2, 9, 10, 11, 16, 17, 18, 20, 30, 40, 1000, 4093, 4094, 4095, 1<<16 + 10, 1<<32 + 10, most} {
				isPlace(t, fmt.Sprint(what, ": Domain ", dev, vlan), names.Domain(n, dev, vlan), slices.IndexFunc(n.Domains, func(d api.Domain) bool { return d.Dev == dev && d.Vlan == vlan }))
			}
		}
	}
}

// What lies behind a list's end is not found.
func TestFindsNothingBehindEnds(t *testing.T) {
	n := twins()
	n.Devices[3].Name, n.Ports[15].Name, n.Vrfs[15].Name = "last", "last", "last"
	dev := n.Ports[15].Dev
	isPlace(t, "the last Port", names.Port(n, dev, "last"), 15)
	isPlace(t, "the last Vrf", names.Vrf(n, dev, "last"), 15)
	isPlace(t, "the last Device", names.Device(n, "last"), 3)
	n.Ports, n.Vrfs = n.Ports[:15], n.Vrfs[:15]
	isPlace(t, "a Port behind the end", names.Port(n, dev, "last"), -1)
	isPlace(t, "a Vrf behind the end", names.Vrf(n, dev, "last"), -1)
	n.Devices, n.Ports, n.Vrfs, n.Domains = n.Devices[:3], nil, n.Vrfs[:0], n.Domains[2:7]
	isPlace(t, "a Device behind the end", names.Device(n, "last"), -1)
	isPlace(t, "a Domain behind the end", names.Domain(n, 0, 20), -1)
	isPlace(t, "the last Domain", names.Domain(n, 0, 10), 4)
}

// Of a net that may not be nothing is found, whichever rule it breaks.
func TestFindsNothingInWrongNets(t *testing.T) {
	for _, f := range allFaults() {
		n := whole()
		f.turn(&n)
		isClosed(t, f.what, n)
	}
}

// P15.3

func TestMember(t *testing.T) {
	for _, p := range []api.Port{
		{Native: 10},
		{Tagged: []int{10, 20, 30}},
		{Native: 5, Tagged: []int{10, 20, 30}},
		{Native: 4094, Tagged: []int{1, 4093}, Dev: 7, Link: 9, Cost: 20, Row: 30, Name: "40"},
		{Tagged: counted(mostList)},
		// Ports that no net has.
		{},
		{Native: 4095, Tagged: []int{30, 20, 20}},
		{Native: 10, Tagged: []int{10}},
		{Native: -1, Tagged: []int{-7, least, most, 70000}},
		{Tagged: []int{0}},
		{Native: 10, Tagged: []int{0, 1, 0}},
		{Tagged: counted(300)},
	} {
		has := vlans(p)
		for _, vlan := range append(numbers(), 5, 7, -7, -10, 11, 15, 16, 17, 255, 256, 300, 301, 70000, 1<<32+10, -4095) {
			if got := names.Member(p, vlan); got != (has[vlan] > 0) {
				t.Errorf("Member(%v, %d) = %v", p, vlan, got)
			}
		}
		if names.Member(p, 0) {
			t.Errorf("Member(%v, 0)", p)
		}
		for _, vlan := range p.Tagged {
			if vlan != 0 && !names.Member(p, vlan) {
				t.Errorf("Member(%v, %d), which is one of Tagged", p, vlan)
			}
		}
	}
	// What lies behind the list's end is none of it.
	if l := []int{10, 20}; names.Member(api.Port{Tagged: l[:1]}, 20) || !names.Member(api.Port{Tagged: l[:2]}, 20) {
		t.Error("a VLAN behind Tagged's end")
	}
}

func areMembers(t *testing.T, what string, got, want []int) {
	t.Helper()
	if !slices.Equal(got, want) {
		t.Fatalf("%s: %v, not %v", what, got, want)
	}
}

func TestMembersOfTheWhole(t *testing.T) {
	n := whole()
	for i, want := range [][]int{{0, 1}, {1}, {1}, {2}, {2, 3}, {5}, {5}, {6}, {4, 5}} {
		areMembers(t, fmt.Sprint("Members of ", i), names.Members(n, i), want)
	}
}

// The ports of the domain's device that have its VLAN, as their own or tagged, rising; of each domain of each net.
func TestMembersAreThePorts(t *testing.T) {
	count := 0
	for what, n := range goods() {
		for i, d := range n.Domains {
			var want []int
			for j, p := range n.Ports {
				if p.Dev == d.Dev && vlans(p)[d.Vlan] > 0 {
					want = append(want, j)
				}
			}
			got := names.Members(n, i)
			areMembers(t, fmt.Sprint(what, ": Members of ", i), got, want)
			for j := 1; j < len(got); j++ {
				if got[j] <= got[j-1] {
					t.Fatalf("%s: Members of %d do not rise: %v", what, i, got)
				}
			}
			count += len(got)
		}
	}
	if count < 100 {
		t.Errorf("%d members", count)
	}
	// A domain without a port, and one of a VLAN that other devices' ports have.
	n := whole()
	n.Domains = append(n.Domains, api.Domain{Dev: 3, Vlan: 20, Irb: -1}, api.Domain{Dev: 1, Vlan: 4094, Irb: -1})
	areMembers(t, "a domain without a port", names.Members(n, 9), nil)
	areMembers(t, "another domain without a port", names.Members(n, 10), nil)
}

func TestMembersOfWhatIsNoPlace(t *testing.T) {
	for what, n := range goods() {
		for _, at := range []int{least, -1 << 32, -10, -2, -1, len(n.Domains), len(n.Domains) + 1, 49, 1 << 32, most} {
			if l := names.Members(n, at); len(l) > 0 {
				t.Errorf("%s: Members of %d: %v", what, at, l)
			}
		}
	}
	n := whole()
	n.Domains = n.Domains[:8:8]
	n.Ports = slices.Clone(n.Ports)
	if l := names.Members(n, 8); len(l) > 0 {
		t.Errorf("Members of a domain behind the end: %v", l)
	}
}

// Members are of memory of their own.
func TestMembersAreNew(t *testing.T) {
	n := full()
	was := rooms(n)
	for i := range n.Domains {
		a, b := names.Members(n, i), names.Members(n, i)
		if len(a) == 0 || unsafe.SliceData(a) == unsafe.SliceData(b) {
			t.Fatalf("Members of %d share memory, or are none", i)
		}
		a = a[:cap(a)]
		for j := range a {
			a[j] = -7
		}
		if len(a) > len(b) && b[:cap(b)][len(b)] == -7 {
			t.Fatalf("Members of %d share spare room", i)
		}
		areMembers(t, "Members again", names.Members(n, i), b)
	}
	if !reflect.DeepEqual(rooms(n), was) {
		t.Error("Members are of the net's memory")
	}
}

// What is handed in reads afterwards as it did, what lies behind the lists' ends too.
func TestCallsLeaveTheNet(t *testing.T) {
	all := goods()
	for _, f := range allFaults() {
		n := whole()
		f.turn(&n)
		all[f.what] = n
	}
	for what, n := range all {
		n = clone(n, 4)
		was := rooms(n)
		names.Right(n)
		names.Device(n, "a")
		names.Port(n, 0, "p1")
		names.Domain(n, 0, 10)
		names.Vrf(n, 0, "red")
		names.Members(n, 0)
		for _, p := range n.Ports {
			names.Member(p, 10)
		}
		names.Same(n, n)
		names.Same(n, whole())
		names.Copy(n)
		if !reflect.DeepEqual(rooms(n), was) {
			t.Fatalf("%s: the net is changed", what)
		}
	}
}

// What is answered hangs on what was handed in alone, not on an earlier net.
func TestNothingIsKept(t *testing.T) {
	n := whole()
	isPlace(t, "Device c", names.Device(n, "c"), 2)
	n.Devices[2].Name = "x"
	isPlace(t, "Device c that is gone", names.Device(n, "c"), -1)
	isPlace(t, "Device x", names.Device(n, "x"), 2)
	isPlace(t, "Device c of another net", names.Device(whole(), "c"), 2)
	n.Devices[0].Vtep = 0
	isRight(t, "the net turned", n, false)
	n.Devices[0].Vtep = 1
	isRight(t, "the net turned back", n, true)
	areMembers(t, "Members", names.Members(n, 0), []int{0, 1})
	n.Ports[1].Tagged[0], n.Statics = 20, nil
	isRight(t, "a list turned", n, false)
	n.Ports[1].Native = 10
	areMembers(t, "Members of the list turned", names.Members(n, 1), []int{1})
}
