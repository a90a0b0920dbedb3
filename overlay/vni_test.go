package overlay_test

import (
	"fmt"
	"strings"
	"testing"

	"paling/api"
	"paling/overlay"
	"paling/stmt"
)

// P19.2

// The VNI and the row of the domain that the line names, in a net written out, of one read from a text.
func TestVniIsPut(t *testing.T) {
	n := api.Net{
		Devices: []api.Device{{Name: "a", Vtep: 1}, {Name: "b", Vtep: 2}},
		Domains: []api.Domain{{Dev: 1, Vlan: 20, Irb: -1}, {Vlan: 20, Irb: -1, Row: 5}, {Vlan: 10, Irb: -1}, {Dev: 1, Vlan: 10, Irb: -1}},
	}
	for i, text := range []string{"vni a 20 5010", "vni b 10 5010", "vni b 20 1", "vni a 10 16777215"} {
		l, e := stmt.Read(strings.Fields(text), 30+i)
		if e != ok {
			t.Fatal(e)
		}
		if n, e = overlay.Vni(n, l); e != ok {
			t.Fatalf("%d: %d", i, e)
		}
	}
	want := []api.Domain{{Dev: 1, Vlan: 20, Vni: 1, Irb: -1, Row: 32}, {Vlan: 20, Vni: 5010, Irb: -1, Row: 30}, {Vlan: 10, Vni: mostVni, Irb: -1, Row: 33}, {Dev: 1, Vlan: 10, Vni: 5010, Irb: -1, Row: 31}}
	if !equal(n.Domains, want) {
		t.Errorf("%+v, not %+v", n.Domains, want)
	}
}

// Each domain without a VNI of nets that have all there is, each VNI that a line may have, and each row.
func TestVniOfEachDomain(t *testing.T) {
	for at, word := range map[int]string{1: "a", 5: "c"} {
		n := whole()
		for _, num := range []int{1, 2, 255, 5011, 65536, mostVni - 1, mostVni} {
			makesVni(t, "a VNI", n, vni(word, n.Domains[at].Vlan, num), at)
		}
		for bit := range 24 {
			makesVni(t, "a bit", n, vni(word, n.Domains[at].Vlan, 1<<bit), at)
		}
		for _, row := range []int{least, -1, 0, 1, 400, 1 << 32, most} {
			l := vni(word, n.Domains[at].Vlan, 9)
			l.Row = row
			makesVni(t, "a row", n, l, at)
		}
		for _, num := range []int{least, -1, 0, mostVni + 1, 1<<32 + 9, most} {
			refuses(t, "a VNI that no line has", n, vni(word, n.Domains[at].Vlan, num), arg)
		}
	}
	// Forty-eight domains, the last one of which is the last VLAN there can be.
	n := row(8)
	for i := range 48 {
		n.Devices[i%8].Vtep = uint32(i%8 + 1)
		n.Domains = append(n.Domains, api.Domain{Dev: i % 8, Vlan: mostVlan - 47 + i, Irb: -1})
	}
	for i := range 48 {
		n = makesVni(t, "one of 48", n, vni(n.Devices[i%8].Name, mostVlan-47+i, i/8+1), i)
	}
}

// A device without a VTEP, whatever else it has and the other ones have.
func TestVniOfADeviceWithoutAVtep(t *testing.T) {
	refuses(t, "d", whole(), vni("d", 10, 5010), noVtep)
	refuses(t, "d, a new one", whole(), vni("d", 10, 9), noVtep)
	for dev := range 8 {
		n := laid(8)
		n.Domains = append(n.Domains, api.Domain{Dev: dev, Vlan: 20, Irb: -1})
		l := vni(n.Devices[dev].Name, 20, 9)
		makesVni(t, "with all VTEPs", n, l, 8)
		n.Devices[dev].Vtep = 0
		refuses(t, "without its own one", n, l, noVtep)
		for other := range n.Devices {
			n.Devices[other].Vtep = 0
		}
		n.Devices[dev].Vtep = 99
		makesVni(t, "with its own one alone", n, l, 8)
	}
}

// No domain of the device and the VLAN: on no device at all, and on another one alone, ahead and behind.
func TestVniOfNoDomain(t *testing.T) {
	for what, l := range map[string]api.Line{
		"a VLAN that none has":          vni("a", 11, 9),
		"a VLAN that c alone has":       vni("a", 40, 9),
		"a VLAN that c alone has, of b": vni("b", 1, 9),
		"a VLAN that a alone has":       vni("c", 20, 9),
		"a VLAN that a, b and d have":   vni("c", 10, 9),
		"the last VLAN, that c has":     vni("b", 4094, 9),
	} {
		refuses(t, what, whole(), l, member)
	}
	for has := range 4 {
		n := row(4)
		for dev := range n.Devices {
			n.Devices[dev].Vtep = uint32(dev + 1)
		}
		n.Domains = []api.Domain{{Dev: has, Vlan: 10, Irb: -1}}
		for dev, d := range n.Devices {
			if dev == has {
				makesVni(t, "its own one", n, vni(d.Name, 10, 5), 0)
			} else {
				refuses(t, "another one's", n, vni(d.Name, 10, 5), member)
			}
		}
	}
	// Each VLAN there can be; what lies behind the end of the domains is none.
	n := row(1)
	n.Devices[0].Vtep = 1
	n.Domains = []api.Domain{{Vlan: 2047, Irb: -1}, {Vlan: 1, Irb: -1}, {Vlan: mostVlan, Irb: -1}, {Vlan: 2046, Irb: -1}}
	n.Domains = n.Domains[:3]
	for vlan := 1; vlan <= mostVlan; vlan++ {
		switch l := vni("sw1", vlan, 5); vlan {
		case 2047:
			makesVni(t, "the first one", n, l, 0)
		case 1:
			makesVni(t, "the one between", n, l, 1)
		case mostVlan:
			makesVni(t, "the last one", n, l, 2)
		default:
			refuses(t, "no domain", n, l, member)
		}
	}
}

// A domain that has a VNI, that one or another one.
func TestVniOfADomainThatHasOne(t *testing.T) {
	n := whole()
	for _, d := range n.Domains {
		if d.Vni == 0 {
			continue
		}
		refuses(t, "its own one", n, vni(n.Devices[d.Dev].Name, d.Vlan, d.Vni), twice)
		refuses(t, "another one", n, vni(n.Devices[d.Dev].Name, d.Vlan, 9), twice)
		refuses(t, "another domain's", n, vni(n.Devices[d.Dev].Name, d.Vlan, 5010), twice)
	}
	for _, num := range []int{1, 5, mostVni} {
		n = laid(1)
		n.Domains[0].Vni = num
		refuses(t, "another one", n, vni("sw1", 10, 9), twice)
		refuses(t, "its own one", n, vni("sw1", 10, num), twice)
	}
	n = makesVni(t, "one", whole(), vni("c", 1, 9), 5)
	refuses(t, "it again", n, vni("c", 1, 9), twice)
	refuses(t, "another one", n, vni("c", 1, 8), twice)
}

// A domain of that VNI on the same device, ahead and behind, is one too many; on another one alone it is none.
func TestVniThatADomainHas(t *testing.T) {
	n := whole()
	refuses(t, "the first one of a", n, vni("a", 20, 5010), twice)
	refuses(t, "the last one of a", n, vni("a", 20, 5030), twice)
	refuses(t, "one of c", n, vni("c", 1, 7), twice)
	refuses(t, "the last one of c", n, vni("c", 1, 5010), twice)
	makesVni(t, "one that c alone has", n, vni("a", 20, 7), 1)
	makesVni(t, "one that a and b alone have", n, vni("c", 1, 5030), 5)
	makesVni(t, "the VNI 4 beside 5", laidTwice(), vni("sw1", 20, 4), 2)
	makesVni(t, "the VNI 6 beside 5", laidTwice(), vni("sw1", 20, 6), 2)
	makesVni(t, "a VNI beside none", laidTwice(), vni("sw2", 20, 5), 3)
	refuses(t, "the VNI 5", laidTwice(), vni("sw1", 20, 5), twice)
	// A flood list of that VNI is no domain.
	n = listed(3)
	makesVni(t, "one of flood lists", n, vni("sw2", 30, 1001), 5)
}

// laidTwice is a net of two devices with two domains each, the second ones without a VNI; the second device's first one has none either.
func laidTwice() api.Net {
	n := laid(2)
	n.Domains[1].Vni = 0
	n.Domains = append(n.Domains, api.Domain{Dev: 0, Vlan: 20, Irb: -1}, api.Domain{Dev: 1, Vlan: 20, Irb: -1})
	return n
}

// Of several devices of one name the first one is taken.
func TestVniOfTheFirstOfAName(t *testing.T) {
	n := laidTwice()
	n.Devices[1].Name = "sw1"
	makesVni(t, "the first sw1", n, vni("sw1", 20, 9), 2)
	n.Devices[0].Vtep = 0
	refuses(t, "the first sw1 without a VTEP", n, vni("sw1", 20, 9), noVtep)
}

// Each domain that has a VNI is found by its device and that, but where one ahead of it has both; no other number finds one.
func TestFind(t *testing.T) {
	n := whole()
	want := map[[2]int]int{{0, 5010}: 0, {0, 5030}: 2, {1, 5010}: 3, {1, 5030}: 4, {2, 7}: 6, {2, 5010}: 8}
	found := 0
	for _, dev := range anyPlaces(len(n.Devices)) {
		for _, num := range anyVnis() {
			at, there := want[[2]int{dev, num}]
			if !there {
				at = -1
			} else {
				found++
			}
			finds(t, "the whole", n, dev, num, at)
		}
	}
	if found != len(want) {
		t.Errorf("%d are found", found)
	}
	n.Domains[6].Vni = mostVni
	finds(t, "the greatest", n, 2, mostVni, 6)
	n.Domains[6].Vni = 1
	finds(t, "the least", n, 2, 1, 6)
}

// The first of several of one device and one VNI, wherever they stand.
func TestFindTheFirstOfSeveral(t *testing.T) {
	n := met()
	for dev := range 3 {
		finds(t, "four of each device", n, dev, mostVni, 4*dev)
	}
	for first := range 6 {
		n := row(2)
		for i := range 6 {
			d := api.Domain{Dev: 1, Vlan: 10 + i, Irb: -1}
			if i >= first {
				d.Vni = 9
			}
			n.Domains = append(n.Domains, d, api.Domain{Dev: 0, Vlan: 10 + i, Vni: 9, Irb: -1})
		}
		finds(t, "behind others", n, 1, 9, 2*first)
		finds(t, "the other device", n, 0, 9, 1)
	}
}

// The VNI 0 is none, though domains have it.
func TestFindTheVniNought(t *testing.T) {
	for what, n := range goods() {
		for _, dev := range anyPlaces(len(n.Devices)) {
			finds(t, what, n, dev, 0, -1)
		}
	}
	finds(t, "a device with a VTEP and a VLAN", listed(0), 0, 0, -1)
}

// No device of that place, ends of the numbers too; what lies behind the end of the domains is none.
func TestFindOfNoDevice(t *testing.T) {
	for what, n := range goods() {
		for _, dev := range anyPlaces(len(n.Devices)) {
			for _, num := range anyVnis() {
				finds(t, what, n, dev, num, saidFind(n, dev, num))
			}
			if dev < 0 || dev >= len(n.Devices) {
				finds(t, what, n, dev, 5, -1)
				finds(t, what, n, dev, 5010, -1)
			}
		}
	}
	n := laid(3)
	n.Domains = n.Domains[:2]
	finds(t, "the last one", n, 1, 5, 1)
	finds(t, "one behind the end", n, 2, 5, -1)
}

// Of a net that may not be nothing is found.
func TestFindOfWrongNets(t *testing.T) {
	for _, f := range faults() {
		n := whole()
		f.turn(&n)
		for _, dev := range []int{-1, 0, 1, 2, 3, 4} {
			for _, num := range []int{-1, 0, 7, 5010, 5030, 1 << 24} {
				finds(t, f.what, n, dev, num, -1)
			}
		}
	}
	finds(t, "a domain of no device", api.Net{Domains: []api.Domain{{Vlan: 10, Vni: 5, Irb: -1}}}, 0, 5, -1)
	finds(t, "49 flood lists", listed(49), 0, 5, -1)
}

// A device's VTEP bears not on what is found.
func TestFindWithoutVteps(t *testing.T) {
	n := laid(8)
	for dev := range n.Devices {
		n.Devices[dev].Vtep = 0
		finds(t, fmt.Sprint("without the VTEP of ", dev), n, dev, 5, dev)
	}
}
