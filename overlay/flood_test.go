package overlay_test

import (
	"fmt"
	"slices"
	"strings"
	"testing"

	"paling/api"
	"paling/overlay"
	"paling/stmt"
)

// P19.3

// Each field of the flood list that is put, behind all others, in a net written out, of lines read from texts.
func TestFloodIsPut(t *testing.T) {
	n := api.Net{
		Devices: []api.Device{{Name: "a", Vtep: 1}, {Name: "b", Vtep: 2}},
		Domains: []api.Domain{{Dev: 1, Vlan: 20, Vni: 6, Irb: -1}, {Vlan: 20, Vni: 5, Irb: -1}, {Dev: 1, Vlan: 10, Vni: 5, Irb: -1}},
	}
	want := []api.Flood{{Row: 40, Dev: 1, Vni: 5, Addrs: to(1)}, {Row: 41, Dev: 0, Vni: 5, Addrs: to(2, 0x0a000001)}, {Row: 42, Dev: 1, Vni: 6, Addrs: to(0xffffffff)}}
	for i, text := range []string{"flood b 5 0.0.0.1", "flood a 5 0.0.0.2,10.0.0.1", "flood b 6 255.255.255.255"} {
		l, e := stmt.Read(strings.Fields(text), 40+i)
		if e != ok {
			t.Fatal(e)
		}
		if n, e = overlay.Flood(n, l); e != ok {
			t.Fatalf("%d: %d", i, e)
		}
		if !equal(n.Floods, want[:i+1]) {
			t.Errorf("%d: %+v, not %+v", i, n.Floods, want[:i+1])
		}
	}
}

// Rows, VNIs and lists of one address to sixteen.
func TestFloodOfAnyRowVniAndList(t *testing.T) {
	for _, at := range []int{least, -1, 0, 1, 400, 1 << 32, most} {
		l := flood("c", 7, 9)
		l.Row = at
		makesFlood(t, "a row", whole(), l, 2)
	}
	for _, num := range []int{1, 8, 255, 65536, mostVni} {
		n := whole()
		n.Domains[6].Vni = num
		makesFlood(t, "a VNI", n, flood("c", num, 9), 2)
		n.Domains[6].Vni = 7
		refuses(t, "a VNI that is gone", n, flood("c", num, 9), name)
	}
	addrs := to(1, 2, 3, 4, 5, 6, 7, 8, 9, 1<<16, 1<<24, 0x0a000001, 0x0a000002, 0x0a000004, 1<<31, 0xffffffff)
	for count := range 17 {
		l := flood("c", 7, addrs[:count]...)
		if count == 0 {
			refuses(t, "no address", whole(), l, arg)
		} else {
			makesFlood(t, fmt.Sprint(count, " addresses"), whole(), l, 2)
		}
	}
	refuses(t, "17 addresses", whole(), flood("c", 7, append(to(1), 2, 3, 4, 5, 6, 7, 8, 9, 10, 11, 12, 13, 14, 15, 16, 17)...), arg)
	// Addresses that no device has are as good as others: what agrees is asked later.
	makesFlood(t, "of no device", laid(1), flood("sw1", 5, 7), 0)
	makesFlood(t, "of devices without a domain", whole(), flood("c", 7, 0x0a000001, 0x0a000002), 2)
}

// No domain of the device and the VNI: on no device at all, and on another one alone; a device without a VNI.
func TestFloodOfNoDomain(t *testing.T) {
	for what, l := range map[string]api.Line{
		"a VNI that none has":               flood("a", 5011, 9),
		"a VNI that c alone has":            flood("a", 7, 9),
		"a VNI that c alone has, of b":      flood("b", 7, 9),
		"a VNI that a and b alone have":     flood("c", 5030, 9),
		"a VNI that is a VLAN of its":       flood("a", 10, 9),
		"a device without a VNI":            flood("d", 5010, 9),
		"a device without a VNI, a new one": flood("d", 9, 9),
	} {
		refuses(t, what, whole(), l, name)
	}
	for has := range 4 {
		n := row(4)
		n.Domains = []api.Domain{{Dev: has, Vlan: 10, Vni: 5, Irb: -1}}
		for dev, d := range n.Devices {
			if dev == has {
				makesFlood(t, "its own one", n, flood(d.Name, 5, 9), dev)
			} else {
				refuses(t, "another one's", n, flood(d.Name, 5, 9), name)
			}
		}
	}
	// A flood list of that device and VNI is no domain; what lies behind the end of the domains is none.
	n := listed(3)
	refuses(t, "a flood list alone", n, flood("sw2", 1001, 1), name)
	n = laid(3)
	n.Domains = n.Domains[:2]
	refuses(t, "a domain behind the end", n, flood("sw3", 5, 1), name)
	makesFlood(t, "the last one", n, flood("sw2", 5, 1), 1)
	// A device's own VNI counts, on any of its VLANs.
	n = laid(1)
	n.Domains = append(n.Domains, api.Domain{Vlan: 20, Irb: -1}, api.Domain{Vlan: 30, Vni: 9, Irb: -1})
	makesFlood(t, "the last of its domains", n, flood("sw1", 9, 7), 0)
}

// A flood list of that device and VNI: first, between and last, with those addresses and with others.
func TestFloodTwice(t *testing.T) {
	n := whole()
	for _, f := range n.Floods {
		l := flood(n.Devices[f.Dev].Name, f.Vni, 9)
		refuses(t, "others", n, l, twice)
		l.Addrs = slices.Sorted(slices.Values(f.Addrs))
		refuses(t, "those", n, l, twice)
		l.Row = f.Row
		refuses(t, "those, with the row", n, l, twice)
	}
	for at := range n.Floods {
		less := whole()
		f := less.Floods[at]
		less.Floods = slices.Delete(less.Floods, at, at+1)
		makesFlood(t, "one that is gone", less, flood(n.Devices[f.Dev].Name, f.Vni, 9), f.Dev)
	}
	n = makesFlood(t, "one", whole(), flood("c", 7, 9), 2)
	refuses(t, "it again", n, flood("c", 7, 9), twice)
	refuses(t, "it again, of another address", n, flood("c", 7, 8), twice)
	n.Floods = n.Floods[:5]
	makesFlood(t, "one behind the end", n, flood("c", 7, 9), 2)
}

// A flood list of that VNI of another device, and of another VNI of that device, is another one.
func TestFloodBesideOthers(t *testing.T) {
	for has := range 4 {
		n := laid(4)
		n.Floods = []api.Flood{{Row: 1, Dev: has, Vni: 5, Addrs: to(9)}}
		for dev, d := range n.Devices {
			if dev != has {
				makesFlood(t, "another device's", n, flood(d.Name, 5, 9), dev)
			} else {
				refuses(t, "its own one", n, flood(d.Name, 5, 9), twice)
			}
		}
	}
	n := listed(0)
	n.Floods = []api.Flood{{Dev: 0, Vni: 5}, {Dev: 1, Vni: 6}}
	makesFlood(t, "another VNI", n, flood("sw1", 6, 2), 0)
	makesFlood(t, "another VNI", n, flood("sw2", 5, 1), 1)
	refuses(t, "an empty one", n, flood("sw1", 5, 2), twice)
	refuses(t, "an empty one", n, flood("sw2", 6, 1), twice)
}

// The device's own VTEP among the addresses: alone, first, between and last of sixteen; another device's is none.
func TestFloodOfTheOwnVtep(t *testing.T) {
	n := whole()
	own := n.Devices[2].Vtep
	refuses(t, "alone", n, flood("c", 7, own), floods)
	refuses(t, "first", n, flood("c", 7, own, own+1), floods)
	refuses(t, "last", n, flood("c", 7, own-2, own-1, own), floods)
	makesFlood(t, "others' alone", n, flood("c", 7, own-2, own-1, own+1), 2)
	for at := range 16 {
		l := flood("c", 7)
		for i := range 16 {
			l.Addrs = append(l.Addrs, own+uint32(i)-uint32(at))
		}
		refuses(t, fmt.Sprint("at the place ", at), n, l, floods)
		l.Addrs = slices.Delete(l.Addrs, at, at+1)
		makesFlood(t, "without it", n, l, 2)
	}
	for bit := range 32 {
		makesFlood(t, "one bit", n, flood("c", 7, own^1<<bit), 2)
	}
	// A device without a VTEP has none among them.
	n.Devices[2].Vtep = 0
	n.Domains[0].Peers, n.Domains[3].Peers, n.Domains[8].Peers = nil, nil, nil
	makesFlood(t, "without a VTEP", n, flood("c", 7, own), 2)
	makesFlood(t, "without a VTEP", n, flood("c", 7, 1), 2)
	// Another device of that VTEP bears not on it.
	m := laid(2)
	m.Devices[1].Vtep = 9
	makesFlood(t, "another device's", m, flood("sw1", 5, 9), 0)
	refuses(t, "its own one", m, flood("sw2", 5, 9), floods)
}

// Forty-seven flood lists, forty-eight and forty-nine; and from none on, one after another.
func TestFloodAtTheLimit(t *testing.T) {
	for count := range mostFloods {
		makesFlood(t, fmt.Sprint(count, " flood lists"), listed(count), flood("sw1", 5, 2), 0)
	}
	full := listed(mostFloods)
	refuses(t, "48 flood lists", full, flood("sw1", 5, 2), big)
	refuses(t, "48 flood lists, the other device", full, flood("sw2", 6, 1), big)
	full.Floods = full.Floods[:47]
	makesFlood(t, "47 of 48 flood lists", full, flood("sw1", 5, 2), 0)
	for _, count := range []int{49, 50, 96, 300} {
		refuses(t, fmt.Sprint(count, " flood lists"), listed(count), flood("sw1", 5, 2), arg)
		refuses(t, fmt.Sprint(count, " flood lists"), listed(count), flood("z", 5, 2), arg)
	}
	// Eight devices with six VNIs each have one list each at the most, which are just as many as there may be.
	n := row(8)
	for i := range 48 {
		n.Devices[i%8].Vtep = uint32(i%8 + 1)
		n.Domains = append(n.Domains, api.Domain{Dev: i % 8, Vlan: 1 + i, Vni: i/8 + 1, Irb: -1})
	}
	for i := range 48 {
		n = makesFlood(t, fmt.Sprint("list ", i), n, flood(n.Devices[i%8].Name, i/8+1, 99), i%8)
	}
	refuses(t, "one that is there", n, flood("sw1", 1, 99), twice)
	refuses(t, "one of no domain", n, flood("sw1", 7, 99), name)
	n.Domains[47].Vni = 7
	refuses(t, "the forty-ninth", n, flood("sw8", 7, 99), big)
}

// Of several devices of one name the first one is taken.
func TestFloodOfTheFirstOfAName(t *testing.T) {
	n := laid(3)
	n.Devices[2].Name = "sw2"
	n = makesFlood(t, "the first sw2", n, flood("sw2", 5, 3), 1)
	refuses(t, "the first sw2 again", n, flood("sw2", 5, 9), twice)
	n = laid(3)
	n.Devices[2].Name = "sw2"
	refuses(t, "the first one's VTEP", n, flood("sw2", 5, 2), floods)
	n.Domains[1].Vni = 0
	refuses(t, "the first one without a VNI", n, flood("sw2", 5, 9), name)
}
