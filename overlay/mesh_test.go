package overlay_test

import (
	"fmt"
	"slices"
	"strings"
	"testing"

	"paling/api"
	"paling/overlay"
	"paling/stmt"
)

// P19.4

// Two devices, each in the other one's list, are a mesh; without the second list, or the first one, they are none.
func TestTheChaptersExample(t *testing.T) {
	n := api.Net{Devices: []api.Device{{Name: "a"}, {Name: "b"}}, Domains: []api.Domain{{Vlan: 10, Irb: -1}, {Dev: 1, Vlan: 20, Irb: -1}}}
	for i, text := range []string{"vtep a 10.0.0.1", "vtep b 10.0.0.2", "vni a 10 5010", "vni b 20 5010", "flood a 5010 10.0.0.2", "flood b 5010 10.0.0.1"} {
		l, e := stmt.Read(strings.Fields(text), i+1)
		if e != ok {
			t.Fatal(e)
		}
		if n, e = puts()[l.Kind](n, l); e != ok {
			t.Fatalf("%s: %d", text, e)
		}
		if l.Row == 5 {
			isNone(t, "without the second list", n, floods, 5)
		}
	}
	isMeshed(t, "both lists", n, map[int][]int{0: {1}, 1: {0}})
	n.Floods = n.Floods[1:]
	isNone(t, "without the first list", n, floods, 6)
}

// A net without flood lists has no peers: those that were there go.
func TestMeshWithoutFloods(t *testing.T) {
	for what, n := range goods() {
		n.Floods = nil
		isMeshed(t, what, n, nil)
		n.Floods = []api.Flood{}
		isMeshed(t, what, n, nil)
	}
	isMeshed(t, "nothing", api.Net{}, nil)
}

// All that there is: two meshes, whose peers stand in the order of the flood lists.
func TestMeshOfTheWhole(t *testing.T) {
	n := isMeshed(t, "the whole", whole(), map[int][]int{0: {3, 8}, 2: {4}, 3: {8, 0}, 4: {2}, 8: {0, 3}})
	isMeshed(t, "the whole again", n, map[int][]int{0: {3, 8}, 2: {4}, 3: {8, 0}, 4: {2}, 8: {0, 3}})
	n = whole()
	n.Floods = append(n.Floods[1:2], n.Floods[4:]...)
	isMeshed(t, "one mesh of both", n, map[int][]int{2: {4}, 4: {2}})
	n.Floods = nil
	isMeshed(t, "none of both", n, nil)
}

// Lists that agree of two devices, three and more, up to eight.
func TestMeshOfSome(t *testing.T) {
	for count := 2; count <= 8; count++ {
		peers := map[int][]int{}
		for at := range count {
			for other := range count {
				if other != at {
					peers[at] = append(peers[at], other)
				}
			}
		}
		isMeshed(t, fmt.Sprint(count, " devices"), full(count), peers)
		// Some of eight: the others have a VTEP and a domain, but no list.
		if n := laid(8); count < 8 {
			n.Floods = full(count).Floods
			isMeshed(t, fmt.Sprint(count, " devices of eight"), n, peers)
			n.Floods = append(n.Floods, api.Flood{Row: 1, Dev: 7, Vni: 5})
			isMeshed(t, "and an empty list", n, peers)
		}
	}
	isMeshed(t, "two of three", with(3, to(3), nil, to(1)), map[int][]int{0: {2}, 2: {0}})
	isMeshed(t, "two of three", with(3, nil, to(3), to(2)), map[int][]int{1: {2}, 2: {1}})
}

// An empty list agrees with nothing else, and has no peers.
func TestMeshOfEmptyLists(t *testing.T) {
	isMeshed(t, "one", with(2, to()), nil)
	isMeshed(t, "two", with(2, to(), to()), nil)
	isMeshed(t, "beside a mesh", with(3, to(), to(3), to(2)), map[int][]int{1: {2}, 2: {1}})
	isNone(t, "that another one names", with(2, to(2), to()), floods, 100)
	isNone(t, "that another one names", with(2, to(), to(1)), floods, 101)
	n := with(1, to())
	n.Devices[0].Vtep = 0
	isMeshed(t, "of a device without a VTEP", n, nil)
}

// Meshes side by side: of one VNI, of several VNIs of the same devices, and of VNIs of some each.
func TestMeshesSideBySide(t *testing.T) {
	isMeshed(t, "two of one VNI", with(4, to(2), to(1), to(4), to(3)), map[int][]int{0: {1}, 1: {0}, 2: {3}, 3: {2}})
	isMeshed(t, "two of one VNI, crosswise", with(5, to(3, 5), to(4), to(5, 1), to(2), to(1, 3)), map[int][]int{0: {2, 4}, 1: {3}, 2: {4, 0}, 3: {1}, 4: {0, 2}})
	// Each device has a domain of each of six VNIs; of the VNI 5 + k the mesh is of the first 2 + k devices.
	n, peers := row(8), map[int][]int{}
	for dev := range 8 {
		n.Devices[dev].Vtep = uint32(100 - dev)
	}
	for k := range 6 {
		for dev := range 8 {
			at := len(n.Domains)
			n.Domains = append(n.Domains, api.Domain{Dev: dev, Vlan: 10 + k, Vni: 5 + k, Irb: -1})
			if dev >= 2+k {
				continue
			}
			f := api.Flood{Row: at, Dev: dev, Vni: 5 + k}
			for other := range 2 + k {
				if other != dev {
					f.Addrs, peers[at] = append(f.Addrs, uint32(100-other)), append(peers[at], 8*k+other)
				}
			}
			n.Floods = append(n.Floods, f)
		}
	}
	isMeshed(t, "six VNIs", n, peers)
	shuffle(n.Floods, draws(1))
	isMeshed(t, "six VNIs, lists in any order", n, peers)
	for i, f := range n.Floods {
		// Of one VNI a list lacks an address that the others have.
		if f.Vni == 10 {
			n.Floods[i].Addrs = f.Addrs[1:]
			if _, _, e := isMeshedAsSaid(t, "one that lacks one", n); e != floods {
				t.Errorf("a list that lacks one: %d", e)
			}
			n.Floods[i].Addrs = f.Addrs
		}
	}
}

// Peers stand in the order of the addresses of a domain's own list, wherever devices, domains and lists stand.
func TestMeshHasTheListsOrder(t *testing.T) {
	isMeshed(t, "rising", with(3, to(2, 3), to(1, 3), to(1, 2)), map[int][]int{0: {1, 2}, 1: {0, 2}, 2: {0, 1}})
	isMeshed(t, "falling", with(3, to(3, 2), to(3, 1), to(2, 1)), map[int][]int{0: {2, 1}, 1: {2, 0}, 2: {1, 0}})
	isMeshed(t, "any", with(4, to(3, 2, 4), to(4, 1, 3), to(1, 2, 4), to(3, 2, 1)), map[int][]int{0: {2, 1, 3}, 1: {3, 0, 2}, 2: {0, 1, 3}, 3: {2, 1, 0}})
	n := with(3, to(2, 3), to(3, 1), to(1, 2))
	slices.Reverse(n.Floods)
	isMeshed(t, "lists the other way round", n, map[int][]int{0: {1, 2}, 1: {2, 0}, 2: {0, 1}})
	slices.Reverse(n.Domains)
	isMeshed(t, "domains the other way round", n, map[int][]int{2: {1, 0}, 1: {0, 2}, 0: {2, 1}})
	n.Devices[0].Vtep, n.Devices[2].Vtep = 3, 1
	n.Floods = []api.Flood{{Dev: 2, Vni: 5, Addrs: to(2, 3)}, {Dev: 1, Vni: 5, Addrs: to(3, 1)}, {Dev: 0, Vni: 5, Addrs: to(2, 1)}}
	isMeshed(t, "VTEPs the other way round", n, map[int][]int{2: {1, 0}, 1: {2, 0}, 0: {1, 2}})
	for seed := range 200 {
		draw := draws(uint64(seed))
		n, peers := full(8), map[int][]int{}
		shuffle(n.Domains, draw)
		shuffle(n.Floods, draw)
		domainOf := map[uint32]int{}
		for at, d := range n.Domains {
			domainOf[uint32(d.Dev+1)] = at
		}
		for _, f := range n.Floods {
			shuffle(f.Addrs, draw)
			for _, addr := range f.Addrs {
				at := domainOf[uint32(f.Dev+1)]
				peers[at] = append(peers[at], domainOf[addr])
			}
		}
		isMeshed(t, fmt.Sprint("seed ", seed), n, peers)
	}
}

// An address that is no device's: alone, beside right ones, in the first list and in the last one.
func TestMeshOfNoDevice(t *testing.T) {
	isNone(t, "alone", with(1, to(9)), floods, 100)
	isNone(t, "first", with(2, to(9, 2), to(1)), floods, 100)
	isNone(t, "last", with(2, to(2, 9), to(1)), floods, 100)
	isNone(t, "in both lists", with(2, to(2, 9), to(1, 9)), floods, 100)
	isNone(t, "in the last list", with(2, to(2), to(1, 9)), floods, 101)
	isNone(t, "of another VNI", with(3, to(2), to(1), to(0xffffffff)), floods, 102)
	for bit := 4; bit < 32; bit++ {
		n := full(8)
		n.Floods[3].Addrs = append(n.Floods[3].Addrs, 1<<bit)
		isNone(t, fmt.Sprint("the bit ", bit), n, floods, 103)
	}
	// What lies behind the end of the devices is none.
	n := with(3, to(3))
	n.Devices, n.Domains = n.Devices[:2], n.Domains[:2]
	isNone(t, "a device behind the end", n, floods, 100)
}

// An address that is 0 is no device's, though devices without a VTEP have that, and lists that have it.
func TestMeshOfTheAddressNought(t *testing.T) {
	isNone(t, "alone", with(1, to(0)), floods, 100)
	isNone(t, "beside right ones", with(2, to(2, 0), to(1)), floods, 100)
	isNone(t, "ahead of right ones", with(2, to(0, 2), to(1)), floods, 100)
	isNone(t, "in the last list", with(2, to(2), to(1, 0)), floods, 101)
	isNone(t, "in both lists", with(2, to(2, 0), to(0, 1)), floods, 100)
	for dev := range 2 {
		n := with(2, to(2), to(1))
		n.Devices[dev].Vtep = 0
		n.Floods[1-dev].Addrs = to(0)
		isNone(t, "of a device without a VTEP", n, floods, 101-dev)
		n.Devices[1-dev].Vtep = 0
		n.Floods[dev].Addrs = to(0)
		isNone(t, "both without a VTEP", n, floods, 100)
	}
	n := with(3, to(2, 0), to(1, 0), to(1, 2))
	n.Devices[2].Vtep = 0
	isNone(t, "of the last of three", n, floods, 100)
}

// A device without a domain of that VNI, though it has a flood list of it: none at all, and one of another VNI.
func TestMeshOfADeviceWithoutADomain(t *testing.T) {
	for _, num := range []int{0, 4, 6, mostVni} {
		n := full(3)
		n.Domains[1].Vni = num
		isNone(t, "the second one's", n, floods, 100)
		n = full(3)
		n.Domains[0].Vni = num
		isNone(t, "the first one's", n, floods, 100)
		slices.Reverse(n.Floods)
		isNone(t, "the first one's, lists the other way round", n, floods, 102)
		n = full(3)
		n.Domains[2].Vni = num
		isNone(t, "the third one's", n, floods, 100)
		// Each of its own lists is empty, so that what they lack is the domain alone.
		n = with(3, to(2), to(1), to())
		n.Domains[2].Vni = num
		isNone(t, "of an empty list", n, floods, 102)
	}
	n := full(2)
	n.Domains = n.Domains[:1]
	isNone(t, "behind the end", n, floods, 100)
	// A domain of that VNI on another device is none of its own.
	n = full(3)
	n.Floods = []api.Flood{{Row: 1, Dev: 0, Vni: 5, Addrs: to(2)}, {Row: 2, Dev: 1, Vni: 5, Addrs: to(1)}}
	n.Domains[1].Vni = 0
	isNone(t, "on another device", n, floods, 1)
}

// A device without a flood list of that VNI: none at all, one of another VNI, one of another device.
func TestMeshOfADeviceWithoutAList(t *testing.T) {
	isNone(t, "none of the second one", with(2, to(2), nil), floods, 100)
	isNone(t, "none of the first one", with(2, nil, to(1)), floods, 101)
	isNone(t, "none of the third one", with(3, to(2, 3), to(1, 3), nil), floods, 100)
	isNone(t, "none of the third one, which the second one names", with(3, to(2), to(1, 3), nil), floods, 101)
	for _, num := range []int{least, -5, -1, 0, 4, 6, 1<<32 + 5, most} {
		n := full(2)
		n.Floods[1].Vni = num
		isNone(t, "one of another VNI", n, floods, 100)
		n.Floods[0].Addrs = nil
		isNone(t, "one of another VNI alone", n, floods, 101)
	}
	n := full(3)
	n.Floods[1].Dev = 2
	isNone(t, "one of another device", n, floods, 100)
	n = full(3)
	n.Floods = n.Floods[:2]
	isNone(t, "one behind the end", n, floods, 100)
}

// A flood list without the VTEP of the one that names its device.
func TestMeshOfAListWithoutTheOwnVtep(t *testing.T) {
	isNone(t, "another one's instead", with(3, to(2), to(3), to(2)), floods, 100)
	isNone(t, "none", with(2, to(2), to()), floods, 100)
	isNone(t, "a ring", with(3, to(2), to(3), to(1)), floods, 100)
	isNone(t, "of the third one", with(3, to(2, 3), to(1, 3), to(2)), floods, 100)
	isNone(t, "of the first one", with(3, to(3), to(1, 3), to(1, 2)), floods, 101)
	isNone(t, "of the first one, named last", with(3, to(2), to(1), to(1)), floods, 102)
	// Its own address is none that it has to have.
	n := full(2)
	n.Devices[0].Vtep = 9
	isNone(t, "a VTEP that is not the old one", n, floods, 100)
	n.Floods[1].Addrs = to(9)
	isMeshed(t, "a VTEP that is the new one", n, map[int][]int{0: {1}, 1: {0}})
	// Of a device without a VTEP no list has it.
	n = with(2, to(2), to(1))
	n.Devices[0].Vtep = 0
	isNone(t, "no VTEP", n, floods, 100)
}

// A flood list without one of the other addresses of the one that names its device: each of them, in each list.
func TestMeshOfAListWithoutAnotherAddress(t *testing.T) {
	isNone(t, "the second one's lacks the third one", with(3, to(2, 3), to(1), to(1, 2)), floods, 100)
	isNone(t, "the third one's lacks the second one", with(3, to(2, 3), to(1, 3), to(1)), floods, 100)
	isNone(t, "the first one's lacks the third one", with(3, to(2), to(1, 3), to(1, 2)), floods, 101)
	isNone(t, "only the third one names both", with(3, to(3), to(3), to(1, 2)), floods, 102)
	for count := 3; count <= 8; count++ {
		for dev := range count {
			for at := range count - 1 {
				n := full(count)
				gone := n.Floods[dev].Addrs[at]
				n.Floods[dev].Addrs = slices.Delete(n.Floods[dev].Addrs, at, at+1)
				// The first list but its own names both.
				want := 100
				if dev == 0 {
					want = 101
				}
				isNone(t, fmt.Sprint("the list ", dev, " of ", count, " lacks ", gone), n, floods, want)
			}
		}
	}
	// More than it has to have is for its own turn.
	isNone(t, "one too many", with(4, to(2, 3), to(1, 3, 4), to(1, 2), to(2)), floods, 101)
}

// A list of a device without a domain of the VNI, with addresses and without.
func TestMeshOfAListWithoutADomain(t *testing.T) {
	for _, addrs := range [][]uint32{{}, {1}, {1, 2}, {3}, {0}} {
		for _, num := range []int{0, 6} {
			n := with(3, to(2), to(1), addrs)
			n.Domains[2].Vni = num
			isNone(t, fmt.Sprint(addrs), n, floods, 102)
			n.Floods[0], n.Floods[2] = n.Floods[2], n.Floods[0]
			isNone(t, fmt.Sprint(addrs, ", first"), n, floods, 102)
		}
	}
	// The VNI 0 is none, though domains have it.
	n := with(3, to(2), to(1), to())
	n.Domains[2].Vni, n.Floods[2].Vni = 0, 0
	isNone(t, "the VNI 0", n, floods, 102)
	n.Floods = n.Floods[2:]
	isNone(t, "the VNI 0 alone", n, floods, 102)
	for dev := range 3 {
		n.Domains[dev].Vni = 0
	}
	n.Floods = []api.Flood{{Row: 3, Dev: 0, Addrs: to(2)}, {Row: 4, Dev: 1, Addrs: to(1)}}
	isNone(t, "a mesh of the VNI 0", n, floods, 3)
}

// The row of the first of several that do not agree, whatever the rows are; of one that agrees it is none.
func TestMeshTellsTheFirstRow(t *testing.T) {
	isNone(t, "both", with(3, to(3), to(3), nil), floods, 100)
	for first := range 8 {
		n := laid(8)
		for dev := range 8 {
			f := api.Flood{Row: 200 - dev, Dev: dev, Vni: 5}
			if dev >= first {
				f.Addrs = to(99)
			}
			n.Floods = append(n.Floods, f)
		}
		isNone(t, "from one on", n, floods, 200-first)
		slices.Reverse(n.Floods)
		isNone(t, "from the last one on", n, floods, 193)
	}
	for _, row := range []int{least, -1, 0, 1, 100, 400, 1 << 32, most} {
		n := with(3, to(3), to(9), to(1))
		n.Floods[1].Row = row
		isNone(t, "a row", n, floods, row)
		n.Floods[0].Row, n.Floods[2].Row = row, row
		isNone(t, "rows alike", n, floods, row)
	}
	// The list that does not agree is not the one that is wrong, but the first one that another one does not go with.
	n := with(4, to(2, 3, 4), to(1, 3, 4), to(1, 2, 4), to(1, 2))
	for turn := range 4 {
		want := n.Floods[0].Row
		if want == 103 {
			// What the fourth one lacks is not asked of its own list, which the others have all of.
			want = n.Floods[1].Row
		}
		isNone(t, fmt.Sprint("turned ", turn), n, floods, want)
		n.Floods = append(n.Floods[1:], n.Floods[0])
	}
}

// A list that has one device twice agrees, as no other address is asked of that one; its peers may not be.
func TestMeshOfADeviceTwice(t *testing.T) {
	isNone(t, "the first list", with(2, to(2, 2), to(1)), floods, 0)
	isNone(t, "the second list", with(2, to(2), to(1, 1)), floods, 0)
	isNone(t, "both lists", with(2, to(2, 2), to(1, 1)), floods, 0)
	isNone(t, "sixteen times", with(2, slices.Repeat(to(2), 16), to(1)), floods, 0)
	isNone(t, "one of three", with(3, to(2, 3), to(1, 3), to(1, 2, 1)), floods, 0)
	isNone(t, "both of three", with(3, to(2, 3, 2, 3), to(1, 3), to(2, 1)), floods, 0)
	// It does not agree if another one lacks it, or another address.
	isNone(t, "without the other list", with(2, to(2, 2), nil), floods, 100)
	isNone(t, "the other list lacks its own", with(2, to(2, 2), to()), floods, 100)
	isNone(t, "the other list lacks another one", with(3, to(2, 2, 3), to(1), to(1, 2)), floods, 100)
	isNone(t, "no device twice", with(2, to(9, 9), nil), floods, 100)
}

// A list that has its own VTEP agrees; its own peer no domain may be.
func TestMeshOfTheOwnVtep(t *testing.T) {
	isNone(t, "alone", with(1, to(1)), floods, 0)
	isNone(t, "beside another one", with(2, to(1, 2), to(1)), floods, 0)
	isNone(t, "behind another one", with(2, to(2), to(1, 2)), floods, 0)
	isNone(t, "in all lists", with(3, to(1, 2, 3), to(1, 2, 3), to(1, 2, 3)), floods, 0)
	// It is asked for the own VTEP as each other one: a second list of the device goes by the first one.
	n := with(2, to(2), to(1))
	n.Floods = append(n.Floods, api.Flood{Row: 102, Dev: 0, Vni: 5, Addrs: to(1)})
	isNone(t, "in a second list", n, floods, 102)
	n.Floods = slices.Insert(n.Floods, 0, api.Flood{Row: 99, Dev: 0, Vni: 5, Addrs: to(1, 2)})
	isNone(t, "in the first list", n, floods, 0)
}

// Of several devices of one VTEP the first one is taken, whatever the others have.
func TestMeshOfTheFirstOfAVtep(t *testing.T) {
	n := with(3, to(2), to(1), nil)
	n.Devices[2].Vtep = 2
	isMeshed(t, "the first one has all", n, map[int][]int{0: {1}, 1: {0}})
	n = with(3, to(2), nil, to(1))
	n.Devices[2].Vtep = 2
	isNone(t, "the second one has the list", n, floods, 100)
	n = with(3, to(2), to(1), to(1))
	n.Devices[2].Vtep, n.Domains[1].Vni = 2, 6
	isNone(t, "the second one has the domain", n, floods, 100)
	// The second one's list agrees, but the domain that it names does not name its own.
	n = with(3, to(2), to(1), to(1))
	n.Devices[2].Vtep = 2
	isNone(t, "both have a list", n, floods, 0)
	n.Floods[2].Addrs = nil
	isMeshed(t, "the second one has an empty list", n, map[int][]int{0: {1}, 1: {0}})
	// Two devices of one VTEP, each of which names that.
	n = with(2, to(1), to(1))
	n.Devices[1].Vtep = 1
	isNone(t, "each other's", n, floods, 0)
	n.Floods = n.Floods[1:]
	isNone(t, "the first one has no list", n, floods, 101)
}

// Of several flood lists of one device and VNI the first one is taken, for peers and for what others go by; each of them has to agree.
func TestMeshOfTheFirstList(t *testing.T) {
	n := full(3)
	second := func(addrs ...uint32) api.Flood { return api.Flood{Row: 1, Dev: 0, Vni: 5, Addrs: addrs} }
	all := map[int][]int{0: {1, 2}, 1: {0, 2}, 2: {0, 1}}
	n.Floods = append(n.Floods, second())
	isMeshed(t, "a second one, empty", n, all)
	n.Floods[3] = second(2)
	isMeshed(t, "a second one, of some", n, all)
	n.Floods[3] = second(3, 2)
	isMeshed(t, "a second one, of all", n, all)
	n.Floods[3] = second(9)
	isNone(t, "a second one, of no device", n, floods, 1)
	n.Floods[0], n.Floods[3] = second(), n.Floods[0]
	isNone(t, "a first one, empty", n, floods, 101)
	n.Floods[0] = second(2)
	isNone(t, "a first one, of some", n, floods, 101)
	n.Floods[0] = second(3, 2)
	isMeshed(t, "a first one, of all", n, map[int][]int{0: {2, 1}, 1: {0, 2}, 2: {0, 1}})
}

// Of several domains of one device and VNI the first one is a peer; another one gets peers, too, which do not name it.
func TestMeshOfTheFirstDomain(t *testing.T) {
	n := full(2)
	n.Domains = append(n.Domains, api.Domain{Dev: 0, Vlan: 20, Vni: 5, Irb: -1})
	isNone(t, "behind", n, floods, 0)
	n.Domains[2].Dev = 1
	isNone(t, "behind, of the other device", n, floods, 0)
	n.Domains[0], n.Domains[2] = n.Domains[2], n.Domains[0]
	isNone(t, "ahead", n, floods, 0)
	n = with(2, to(), to())
	n.Domains = append(n.Domains, api.Domain{Dev: 0, Vlan: 20, Vni: 5, Irb: -1})
	isMeshed(t, "of empty lists", n, nil)
	n = full(2)
	n.Domains = append(n.Domains, api.Domain{Dev: 0, Vlan: 20, Vni: 6, Irb: -1}, api.Domain{Dev: 1, Vlan: 20, Irb: -1})
	isMeshed(t, "of another VNI, and of none", n, map[int][]int{0: {1}, 1: {0}})
	isNone(t, "four of each device", func() api.Net {
		n := met()
		n.Floods = []api.Flood{{Row: 1, Dev: 0, Vni: mostVni, Addrs: to(2)}, {Row: 2, Dev: 1, Vni: mostVni, Addrs: to(1)}}
		return n
	}(), floods, 0)
}

// Peers that were there go: those of a domain without a list, of one without a VNI's list, and those in another order.
func TestMeshMakesPeersAnew(t *testing.T) {
	for count := 2; count <= 8; count++ {
		once, _, e := overlay.Mesh(full(count))
		if e != ok {
			t.Fatal(e)
		}
		less := clone(once, 0)
		less.Floods = less.Floods[:0]
		isMeshed(t, "no list is left", less, nil)
		less.Floods = []api.Flood{{Dev: 0, Vni: 5, Addrs: to(2)}, {Dev: 1, Vni: 5, Addrs: to(1)}}
		isMeshed(t, "two lists are left", less, map[int][]int{0: {1}, 1: {0}})
		less.Floods = []api.Flood{{Dev: 0, Vni: 6}}
		isNone(t, "a list of another VNI", less, floods, 0)
		turned := clone(once, 0)
		want := map[int][]int{}
		for dev, d := range turned.Domains {
			slices.Reverse(turned.Domains[dev].Peers)
			want[dev] = once.Domains[dev].Peers
			if slices.Equal(d.Peers, want[dev]) && count > 2 {
				t.Fatal("the peers are not turned")
			}
		}
		isMeshed(t, "peers the other way round", turned, want)
	}
}

// Of a net that may not be there are no meshes: ErrArg, and no row.
func TestMeshOfWrongNets(t *testing.T) {
	for _, f := range faults() {
		n := whole()
		f.turn(&n)
		isNone(t, f.what, n, arg, 0)
		if len(n.Floods) > 0 {
			n.Floods[0].Addrs = to(9)
			isNone(t, f.what+", a list that does not agree", n, arg, 0)
		}
		if len(n.Floods) <= mostFloods {
			n.Floods = nil
			if _, _, e := saidMesh(n); e == arg {
				isNone(t, f.what+", no list", n, arg, 0)
			}
		}
	}
	isNone(t, "49 flood lists", listed(49), arg, 0)
	isNone(t, "a flood list of nothing", api.Net{Floods: make([]api.Flood, 1)}, arg, 0)
	isNone(t, "a list of 17", with(1, slices.Repeat(to(1), 17)), arg, 0)
	isNone(t, "48 flood lists", listed(48), floods, 30)
}

// All nets of three devices, whose lists are any two addresses or fewer, or none; one in which the third one has no domain, one in which it has the second one's VTEP, and one in which it has none.
func TestEachThreeLists(t *testing.T) {
	all := [][]uint32{nil, {}}
	for a := range uint32(5) {
		all = append(all, to(a))
		for b := range uint32(5) {
			all = append(all, to(a, b))
		}
	}
	count := map[bool]int{}
	for i := range all {
		for j := range all {
			for k := range all {
				for turn := range 4 {
					// The turned nets are as many each, so that some of them are enough.
					if turn == 0 || (i+j+k)%5 == turn {
						n := with(3, all[i], all[j], all[k])
						turned(&n, turn)
						count[isMeshedOnSets(t, fmt.Sprint(all[i], all[j], all[k], turn), n)]++
					}
				}
			}
		}
	}
	if count[true] < 30 || count[false] < 30000 {
		t.Errorf("%v", count)
	}
}

// turned is one of four ways in which the third device of a net may be.
func turned(n *api.Net, way int) {
	switch way {
	case 1:
		n.Domains[2].Vni = 0
	case 2:
		n.Devices[2].Vtep = 2
	case 3:
		n.Devices[2].Vtep = 0
	}
}

// isMeshedOnSets asks that of a net Mesh tells what the chapter says, and no mesh whose lists are not those of one set.
func isMeshedOnSets(t *testing.T, what string, n api.Net) bool {
	t.Helper()
	m, row, e := overlay.Mesh(n)
	want, at, said := saidMesh(n)
	if row != at || e != said {
		t.Fatalf("%s: the error %d of the row %d is told, not %d of %d", what, e, row, said, at)
	}
	if e != ok {
		return false
	}
	if !agreesOnSets(n) {
		t.Fatalf("%s: lists of unlike sets are a mesh", what)
	}
	if !equal(m, want) {
		t.Fatalf("%s: the net told is %+v, not %+v", what, m, want)
	}
	return true
}

// allAgree tells whether all lists agree.
func allAgree(n api.Net) bool {
	return !slices.ContainsFunc(n.Floods, func(f api.Flood) bool { return !saidAgrees(n, f) })
}

// agreesOnSets tells whether each list, with its own device's VTEP, is the same set as that of each device that it names.
func agreesOnSets(n api.Net) bool {
	set := func(f api.Flood) []uint32 {
		return slices.Compact(slices.Sorted(slices.Values(append(to(n.Devices[f.Dev].Vtep), f.Addrs...))))
	}
	for _, f := range n.Floods {
		for _, addr := range f.Addrs {
			at := saidList(n, saidDevice(n, addr), f.Vni)
			if at < 0 || !slices.Equal(set(f), set(n.Floods[at])) {
				return false
			}
		}
	}
	return true
}

// Nets that are drawn, each held against what the chapter says.
func TestDrawnNetsAsTheChapterSays(t *testing.T) {
	meshed, none, some, anew := 0, 0, 0, 0
	for seed := range 1500 {
		n := drawn(draws(uint64(seed)))
		want, row, e := isMeshedAsSaid(t, fmt.Sprint("seed ", seed), n)
		switch {
		case e == ok && len(n.Floods) > 0:
			meshed++
			if !equal(want, n) {
				anew++
			}
		case e == floods && allAgree(n):
			none++
		case e == floods && row > 0:
			some++
		}
		for _, dev := range anyPlaces(len(n.Devices)) {
			for _, num := range anyVnis() {
				finds(t, fmt.Sprint("seed ", seed), n, dev, num, saidFind(n, dev, num))
			}
		}
	}
	for what, count := range map[string]int{"meshes": meshed, "meshes made anew": anew, "nets that with their peers may not be": none, "lists that do not agree": some} {
		if count < 100 {
			t.Errorf("%d %s", count, what)
		}
	}
}
