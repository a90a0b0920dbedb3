package vrfs_test

import (
	"fmt"
	"strings"
	"testing"

	"paling/addr"
	"paling/api"
	"paling/mac"
	"paling/stmt"
	"paling/vrfs"
)

// P20.2

// Each field of the interface that is put, behind all others, and the domain's, in a net written out, of lines read from texts.
func TestIrbIsPut(t *testing.T) {
	n := api.Net{
		Devices: []api.Device{{Name: "a"}, {Name: "b"}},
		Domains: []api.Domain{{Dev: 1, Vlan: 20, Irb: -1, Row: 7}, {Vlan: 20, Vni: 5, Irb: -1}, {Dev: 1, Vlan: 10, Irb: -1}, {Vlan: 10, Irb: -1}},
		Vrfs:    []api.Vrf{{Dev: 1, Name: "red"}, {Name: "blue"}, {Name: "red"}},
	}
	want := []api.Irb{
		{Row: 60, Domain: 2, Vrf: 0, Net: prefix(0x0a000001, 24)},
		{Row: 61, Domain: 1, Vrf: 2, Net: prefix(0xffffff7e, 25)},
		{Row: 62, Domain: 3, Vrf: 1, Net: prefix(0x80000001, 2)},
		{Row: 63, Domain: 0, Vrf: 0, Net: prefix(0x0a000006, 30)},
	}
	domains := [][]int{{-1, -1, 0, -1}, {-1, 1, 0, -1}, {-1, 1, 0, 2}, {3, 1, 0, 2}}
	for i, text := range []string{"irb b 10 red 10.0.0.1/24", "irb a 20 red 255.255.255.126/25", "irb a 10 blue 128.0.0.1/2", "irb b 20 red 10.0.0.6/30"} {
		l, e := stmt.Read(strings.Fields(text), 60+i)
		if e != ok {
			t.Fatal(e)
		}
		if n, e = vrfs.Irb(n, l); e != ok {
			t.Fatalf("%d: %d", i, e)
		}
		if !equal(n.Irbs, want[:i+1]) {
			t.Errorf("%d: %+v, not %+v", i, n.Irbs, want[:i+1])
		}
		for at, d := range n.Domains {
			if d.Irb != domains[i][at] {
				t.Errorf("%d: the domain %d has the interface %d", i, at, d.Irb)
			}
		}
	}
	if n.Domains[0].Row != 7 || n.Domains[1].Vni != 5 {
		t.Errorf("%+v", n.Domains)
	}
}

// Each domain without an interface of the whole, in each VRF of its device.
func TestIrbOfEachDomainAndVrf(t *testing.T) {
	n := whole()
	count := 0
	for at, d := range n.Domains {
		for i, v := range n.Vrfs {
			l := irb(n.Devices[d.Dev].Name, d.Vlan, v.Name, 0x0c000001, 24)
			switch {
			case d.Irb >= 0 && v.Dev == d.Dev:
				refuses(t, "a domain that has one", n, l, faces)
			case v.Dev == d.Dev:
				makesIrb(t, "a domain without one", n, l, at, i)
				count++
			}
		}
	}
	if count != 2+1+3*2 {
		t.Errorf("%d are put", count)
	}
}

// The row is the line's, whatever it is.
func TestIrbHasTheLinesRow(t *testing.T) {
	for _, at := range []int{least, -1, 0, 1, 12, 400, 401, 1 << 32, most} {
		l := irb("c", 40, "green", 0x0c000001, 24)
		l.Row = at
		if got := makesIrb(t, "a row", whole(), l, 8, 5); got.Irbs[4].Row != at {
			t.Errorf("the row is %d, not %d", got.Irbs[4].Row, at)
		}
	}
}

// Each count of bits, with its least address, its greatest one and some between; those that no line has.
func TestIrbOfPrefixes(t *testing.T) {
	n := laid(1, 1)
	for bits := 1; bits <= 30; bits++ {
		for _, a := range []uint32{0x0a0b0c0d, 0x7fffffff, 0x80000000, 0xffffffff, 0} {
			p := prefix(a, bits)
			first, last := addr.First(p), addr.Last(p)
			for _, inner := range []uint32{first + 1, first + 2, last - 2, last - 1, first + (last-first)/2} {
				l := irb("sw1", 1, "red", inner, bits)
				if got := makesIrb(t, "a prefix", n, l, 0, 0); got.Irbs[0].Net != prefix(inner, bits) {
					t.Errorf("%+v", got.Irbs[0])
				}
			}
			refuses(t, "the first address", n, irb("sw1", 1, "red", first, bits), arg)
			refuses(t, "the last address", n, irb("sw1", 1, "red", last, bits), arg)
		}
	}
	for _, bits := range []int{least, -24, -1, 0, 31, 32, 33, 64, 1<<32 + 24, most} {
		refuses(t, "bits that no line has", n, irb("sw1", 1, "red", 0x0a000001, bits), arg)
	}
}

// No VRF of that name of the device: on no device at all, and on another one alone, ahead and behind.
func TestIrbOfNoVrf(t *testing.T) {
	for what, l := range map[string]api.Line{
		"a name that none has":             irb("a", 20, "black", 0x0c000001, 24),
		"a name that c alone has":          irb("a", 20, "green", 0x0c000001, 24),
		"a name that a and d have":         irb("c", 1, "blue", 0x0c000001, 24),
		"a name that a and d have, of b":   irb("b", 10, "blue", 0x0c000001, 24),
		"a name that all but d have":       irb("d", 10, "red", 0x0c000001, 24),
		"a name like its own but shorter":  irb("a", 20, "re", 0x0c000001, 24),
		"a name like its own but longer":   irb("a", 20, "redd", 0x0c000001, 24),
		"the name of the device":           irb("a", 20, "a", 0x0c000001, 24),
		"the name of one of its own ports": irb("a", 20, "p1", 0x0c000001, 24),
	} {
		refuses(t, what, whole(), l, name)
	}
	for has := range 4 {
		n := laid(4, 1)
		n.Vrfs = []api.Vrf{{Dev: has, Name: "red"}}
		for dev, d := range n.Devices {
			if dev == has {
				makesIrb(t, "its own one", n, irb(d.Name, 1, "red", 0x0a000001, 24), dev, 0)
			} else {
				refuses(t, "another one's", n, irb(d.Name, 1, "red", 0x0a000001, 24), name)
			}
		}
	}
	// What lies behind the end of the VRFs is none.
	n := laid(3, 1)
	n.Vrfs = n.Vrfs[:2]
	refuses(t, "behind the end", n, irb("sw3", 1, "red", 0x0a000001, 24), name)
	makesIrb(t, "the last one", n, irb("sw2", 1, "red", 0x0a000001, 24), 1, 1)
}

// No domain of the device and the VLAN: on no device at all, and on another one alone, ahead and behind; an interface of a VLAN that another device has is none of it.
func TestIrbOfNoDomain(t *testing.T) {
	for what, l := range map[string]api.Line{
		"a VLAN that none has":           irb("a", 11, "red", 0x0c000001, 24),
		"a VLAN that c alone has":        irb("a", 40, "red", 0x0c000001, 24),
		"a VLAN that c alone has, of b":  irb("b", 4094, "red", 0x0c000001, 24),
		"a VLAN that a alone has":        irb("c", 20, "red", 0x0c000001, 24),
		"a VLAN that a, b and d have":    irb("c", 10, "green", 0x0c000001, 24),
		"a VLAN of a and b, of d":        irb("d", 30, "blue", 0x0c000001, 24),
		"a VLAN that is its own, less 1": irb("b", 9, "red", 0x0c000001, 24),
	} {
		refuses(t, what, whole(), l, member)
	}
	for has := range 4 {
		n := laid(4, 0)
		n.Domains = []api.Domain{{Dev: has, Vlan: 10, Irb: -1}}
		for dev, d := range n.Devices {
			if dev == has {
				makesIrb(t, "its own one", n, irb(d.Name, 10, "red", 0x0a000001, 24), 0, dev)
			} else {
				refuses(t, "another one's", n, irb(d.Name, 10, "red", 0x0a000001, 24), member)
			}
		}
	}
	// Each VLAN there can be; what lies behind the end of the domains is none.
	n := laid(1, 0)
	n.Domains = []api.Domain{{Vlan: 2047, Irb: -1}, {Vlan: 1, Irb: -1}, {Vlan: mostVlan, Irb: -1}, {Vlan: 2046, Irb: -1}}
	n.Domains = n.Domains[:3]
	for vlan := 1; vlan <= mostVlan; vlan++ {
		switch l := irb("sw1", vlan, "red", 0x0a000001, 24); vlan {
		case 2047:
			makesIrb(t, "the first one", n, l, 0, 0)
		case 1:
			makesIrb(t, "the one between", n, l, 1, 0)
		case mostVlan:
			makesIrb(t, "the last one", n, l, 2, 0)
		default:
			refuses(t, "no domain", n, l, member)
		}
	}
	for _, vlan := range []int{least, -10, -1, 0, 4095, 1<<32 + 1, most} {
		refuses(t, "a VLAN that no line has", n, irb("sw1", vlan, "red", 0x0a000001, 24), arg)
	}
}

// A domain that has an interface: by its VRF and another one, its address and others, the first interface of all and the last one.
func TestIrbOfADomainThatHasOne(t *testing.T) {
	n := whole()
	for _, i := range n.Irbs {
		d := n.Domains[i.Domain]
		word := n.Devices[d.Dev].Name
		for _, v := range n.Vrfs {
			if v.Dev == d.Dev {
				refuses(t, "its address", n, irb(word, d.Vlan, v.Name, i.Net.Addr, i.Net.Bits), faces)
				refuses(t, "another one", n, irb(word, d.Vlan, v.Name, 0x0c000001, 24), faces)
				refuses(t, "another one of its prefix", n, irb(word, d.Vlan, v.Name, i.Net.Addr+1, 24), faces)
			}
		}
	}
	for has := range 4 {
		n := faced(laid(1, 4), has, 0, prefix(0x0a000001, 24))
		for at := range 4 {
			if l := irb("sw1", at+1, "red", 0x0b000001, 24); at == has {
				refuses(t, "that one", n, l, faces)
			} else {
				makesIrb(t, "another one", n, l, at, 0)
			}
		}
	}
	n = makesIrb(t, "one", whole(), irb("c", 1, "green", 0x0c000001, 24), 5, 5)
	refuses(t, "it again", n, irb("c", 1, "green", 0x0c000001, 24), faces)
	refuses(t, "it again, of another address", n, irb("c", 1, "green", 0x0d000001, 24), faces)
	refuses(t, "it again, in another VRF", n, irb("c", 1, "red", 0x0d000001, 24), faces)
}

// An interface of that very address, of the device itself, in its VRF and in another one, and of another device, whatever its bits; of an address that is unlike it in one bit there is none.
func TestIrbOfAnAddressThatOneHas(t *testing.T) {
	n := whole()
	for _, i := range n.Irbs {
		for _, bits := range []int{1, 8, 24, 25, 28, 30} {
			for _, l := range []api.Line{irb("a", 20, "red", i.Net.Addr, bits), irb("a", 20, "blue", i.Net.Addr, bits), irb("b", 10, "red", i.Net.Addr, bits), irb("c", 1, "green", i.Net.Addr, bits)} {
				refuses(t, "that address", n, l, faces)
			}
		}
	}
	// The first interface, one between and the last one; one of the device itself stands in the way by its address alone.
	n = laid(1, 4)
	for i := range 3 {
		n = makesIrb(t, "one of a few", n, irb("sw1", i+1, "red", 0x0a000011+uint32(i), 24), i, 0)
	}
	for a := uint32(0x0a000010); a < 0x0a000018; a++ {
		for _, bits := range []int{8, 24} {
			if l := irb("sw1", 4, "red", a, bits); a >= 0x0a000011 && a < 0x0a000014 {
				refuses(t, "that address", n, l, faces)
			} else {
				makesIrb(t, "another address", n, l, 3, 0)
			}
		}
	}
	for bit := range 32 {
		m := faced(laid(1, 2), 0, 0, prefix(0x0a0a0a0a, 24))
		a := uint32(0x0a0a0a0a) ^ 1<<bit
		makesIrb(t, fmt.Sprint("the bit ", bit), m, irb("sw1", 2, "red", a, 4), 1, 0)
	}
}

// own is a net of two devices, of two domains each, with an interface of the first one: a line of sw1 finds it on the device itself, one of sw2 on another one.
func own(p api.Prefix) api.Net { return faced(laid(2, 2), 0, 0, p) }

// meets asks that a line's prefix meets the interface of another device, or not, and that it goes with one of the device itself.
func meets(t *testing.T, what string, there, p api.Prefix, want bool) {
	t.Helper()
	what = fmt.Sprintf("%s: %+v beside %+v", what, p, there)
	n := own(there)
	if l := irb("sw2", 2, "red", p.Addr, p.Bits); want {
		refuses(t, what, n, l, faces)
	} else {
		makesIrb(t, what, n, l, 3, 1)
	}
	if l := irb("sw1", 2, "red", p.Addr, p.Bits); there.Addr == p.Addr {
		refuses(t, what, n, l, faces)
	} else {
		makesIrb(t, what+", of the device itself", n, l, 1, 0)
	}
	// The other way round, where the interface stands behind others and its device ahead or behind.
	n = faced(faced(laid(3, 2), 4, 2, prefix(0xdffffff1, 30)), 2, 1, there)
	if l := irb("sw1", 1, "red", p.Addr, p.Bits); want {
		refuses(t, what+", ahead", n, l, faces)
	} else if !addr.Has(p, 0xdffffff1) {
		makesIrb(t, what+", ahead", n, l, 0, 0)
	}
}

// An interface of another device whose address lies within the prefix: at the first and the last address, between, and one past each.
func TestIrbWithAnAddressWithin(t *testing.T) {
	for bits := 1; bits <= 30; bits++ {
		p := prefix(0x4a14941a, bits)
		first, last := addr.First(p), addr.Last(p)
		for _, small := range []int{30, max(bits, 27)} {
			meets(t, "the first one", prefix(first, small), p, true)
			meets(t, "the last one", prefix(last, small), p, true)
			meets(t, "one between", prefix(p.Addr-1, small), p, true)
			meets(t, "one past the last one", prefix(last+1, small), p, false)
			if first > 0 {
				meets(t, "one past the first one", prefix(first-1, small), p, false)
			} else {
				meets(t, "the greatest one of all", prefix(0xffffffff, small), p, false)
			}
		}
	}
	// At the ends of all addresses, past which there is none.
	meets(t, "the last one of all", prefix(0xffffffff, 30), prefix(0xffffff01, 24), true)
	meets(t, "the first one of all", prefix(0, 30), prefix(0xffffff01, 24), false)
	meets(t, "the first one of all", prefix(0, 30), prefix(0x00000081, 24), true)
	meets(t, "the last one of all", prefix(0xffffffff, 30), prefix(0x00000081, 24), false)
}

// An interface of another device whose prefix has the address, but whose own address lies outside: at the prefix's least and greatest address that a line may have there, between, and at the next ones past each. (The first and the last address itself no line may have that lies within: of such a prefix it would be the first or the last one, too, or the prefix would have all of the interface's.)
func TestIrbWithinAPrefix(t *testing.T) {
	for bits := 1; bits <= 28; bits++ {
		p := prefix(0x4a14941a, bits)
		first, last := addr.First(p), addr.Last(p)
		// The interface's own address lies in the half in which the line's does not.
		lower, upper := prefix(last-1, bits), prefix(first+1, bits)
		for _, small := range []int{30, max(bits+1, 29)} {
			meets(t, "the least one", lower, prefix(first+1, small), true)
			meets(t, "the greatest one", upper, prefix(last-1, small), true)
			if last != 0x7fffffff {
				meets(t, "the next one past the last one", lower, prefix(last+2, small), false)
				meets(t, "the next one past the last one", upper, prefix(last+2, small), false)
			}
			if first > 0 {
				meets(t, "the next one past the first one", lower, prefix(first-2, small), false)
				meets(t, "the next one past the first one", upper, prefix(first-2, small), false)
			}
		}
		// An interface's address may be its prefix's first or last one, in a net that may be.
		meets(t, "of the first address", prefix(first, bits), prefix(last-1, 30), true)
		meets(t, "of the last address", prefix(last, bits), prefix(first+1, 30), true)
	}
	meets(t, "of 1 bit", prefix(0x7ffffffe, 1), prefix(1, 30), true)
	meets(t, "of 1 bit", prefix(0x7ffffffe, 1), prefix(0x80000001, 30), false)
	meets(t, "of 1 bit", prefix(0x80000000, 1), prefix(0xfffffffe, 30), true)
	meets(t, "of 1 bit", prefix(0x80000000, 1), prefix(0x7ffffffe, 30), false)
}

// Prefixes of either side that have the other one's address, both, one of them, none; of one prefix, and of prefixes side by side.
func TestIrbBesidePrefixes(t *testing.T) {
	meets(t, "one prefix", prefix(0x0a000001, 24), prefix(0x0a000002, 24), true)
	meets(t, "side by side", prefix(0x0a000001, 24), prefix(0x0a000102, 24), false)
	meets(t, "side by side", prefix(0x0a000101, 24), prefix(0x0a000002, 24), false)
	meets(t, "a greater one", prefix(0x0a000101, 24), prefix(0x0a000002, 16), true)
	meets(t, "a smaller one", prefix(0x0a000101, 16), prefix(0x0a000002, 24), true)
	meets(t, "one address, one prefix", prefix(0x0a000001, 24), prefix(0x0a000001, 24), true)
	meets(t, "one address, another prefix", prefix(0x0a000001, 30), prefix(0x0a000001, 8), true)
}

// All addresses of five bits, and the four sizes of prefixes that lie within, each against each.
func TestIrbOfEachPairOfPrefixes(t *testing.T) {
	met, apart := 0, 0
	for a := uint32(0x0afffff0); a < 0x0b000010; a++ {
		for bits := 27; bits <= 30; bits++ {
			n := own(prefix(a, bits))
			for b := uint32(0x0afffff0); b < 0x0b000010; b++ {
				for small := 27; small <= 30; small++ {
					l := irb("sw2", 2, "red", b, small)
					isSaid(t, "another device", kIrb, n, l)
					switch _, e := vrfs.Irb(n, l); e {
					case ok:
						apart++
					case faces:
						met++
					}
					l.Dev = "sw1"
					isSaid(t, "the device itself", kIrb, n, l)
				}
			}
		}
	}
	if met < 1000 || apart < 1000 {
		t.Errorf("%d meet, %d do not", met, apart)
	}
}

// Of many interfaces of other devices one alone meets the prefix, wherever it stands.
func TestIrbAmongMany(t *testing.T) {
	n := laid(8, 6)
	for i := range 40 {
		n = makesIrb(t, "one of many", n, irb(n.Devices[i%8].Name, i/8+1, "red", 0x0a000001+uint32(i)<<8, 24), i%8*6+i/8, i%8)
	}
	for i := range 40 {
		for dev, d := range n.Devices {
			l := irb(d.Name, 6, "red", 0x0a000002+uint32(i)<<8, 24)
			if dev == i%8 {
				makesIrb(t, "its own device's", n, l, 6*dev+5, dev)
			} else {
				refuses(t, "another device's", n, l, faces)
			}
			l.Addr--
			refuses(t, "that address", n, l, faces)
		}
	}
	for dev, d := range n.Devices {
		makesIrb(t, "none's", n, irb(d.Name, 6, "red", 0x0a000001+40<<8, 24), 6*dev+5, dev)
		refuses(t, "all of them", n, irb(d.Name, 6, "red", 0x0a00ff01, 16), faces)
	}
	// What lies behind the end of the interfaces is none.
	n = faced(faced(laid(2, 2), 0, 0, prefix(0x0a000001, 24)), 1, 0, prefix(0x0b000001, 24))
	n.Irbs, n.Domains[1].Irb = n.Irbs[:1], -1
	makesIrb(t, "behind the end", n, irb("sw2", 1, "red", 0x0b000001, 24), 2, 1)
	refuses(t, "the last one", n, irb("sw2", 1, "red", 0x0a000001, 24), faces)
}

// Forty-eight domains have forty-eight interfaces, and none takes one more.
func TestIrbAtTheLimit(t *testing.T) {
	n := laid(8, 6)
	for i := range 48 {
		dev := i % 8
		n = makesIrb(t, fmt.Sprint("the interface ", i), n, irb(n.Devices[dev].Name, i/8+1, "red", 0x0a000001+uint32(i)<<8, 24), 6*dev+i/8, dev)
	}
	for i := range 48 {
		refuses(t, "one more", n, irb(n.Devices[i%8].Name, i/8+1, "red", 0x0b000001, 24), faces)
		routes(t, "all of them", n, 6*(i%8)+i/8, mac.Host(0x0a000001+uint32(i)<<8), i)
	}
	refuses(t, "a domain that is none", n, irb("sw8", 7, "red", 0x0b000001, 24), member)
}

// Of several devices, or VRFs, of one name the first one is taken.
func TestIrbOfTheFirstOfAName(t *testing.T) {
	n := laid(3, 2)
	n.Devices[2].Name = "sw2"
	makesIrb(t, "the first sw2", n, irb("sw2", 1, "red", 0x0a000001, 24), 2, 1)
	n.Vrfs[1].Name = "blue"
	refuses(t, "a VRF of the second sw2", n, irb("sw2", 1, "red", 0x0a000001, 24), name)
	n.Vrfs[1].Name = "red"
	n.Domains[2].Vlan = 9
	refuses(t, "a VLAN of the second sw2", n, irb("sw2", 1, "red", 0x0a000001, 24), member)
	n = laid(2, 2)
	n.Vrfs = append(n.Vrfs, api.Vrf{Dev: 1, Name: "red"}, api.Vrf{Dev: 0, Name: "red"})
	n.Vrfs[0].Name = "blue"
	makesIrb(t, "the first red of sw2", n, irb("sw2", 1, "red", 0x0a000001, 24), 2, 1)
	makesIrb(t, "the last VRF", n, irb("sw1", 1, "red", 0x0a000001, 24), 0, 3)
}
