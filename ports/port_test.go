package ports_test

import (
	"fmt"
	"slices"
	"testing"

	"paling/api"
	"paling/ports"
)

// P16.2

// isPort asks that a port's line is put behind all others, with domains of these VLANs of its device behind all others, and that nothing else comes with it.
func isPort(t *testing.T, what string, n api.Net, l api.Line, p api.Port, vlans ...int) api.Net {
	t.Helper()
	want := clone(n, 0)
	want.Ports = append(want.Ports, p)
	for _, vlan := range vlans {
		want.Domains = append(want.Domains, api.Domain{Dev: p.Dev, Vlan: vlan, Vni: 0, Irb: -1, Row: 0, Peers: nil})
	}
	return isPut(t, what, ports.Port, n, l, want)
}

// makes asks which domains a port's line makes, by their VLANs, on the device of that place.
func makes(t *testing.T, what string, n api.Net, l api.Line, dev int, vlans ...int) api.Net {
	t.Helper()
	return isPort(t, what, n, l, api.Port{Row: l.Row, Dev: dev, Native: l.Vlan, Cost: l.Cost, Link: -1, Name: l.Port, Tagged: l.Tagged}, vlans...)
}

func TestTheChaptersExample(t *testing.T) {
	n, e := ports.Device(api.Net{}, device("a", 4096, 1))
	if e != ok {
		t.Fatal(e)
	}
	n, e = ports.Port(n, access("a", "p", 10))
	want := api.Net{
		Devices: []api.Device{{Row: 70, Priority: 4096, Name: "a", Mac: 1}},
		Ports:   []api.Port{{Row: 71, Dev: 0, Native: 10, Cost: 4, Link: -1, Name: "p"}},
		Domains: []api.Domain{{Dev: 0, Vlan: 10, Irb: -1}},
	}
	if e != ok || !equal(n, want) {
		t.Fatalf("%+v, %d", n, e)
	}
}

// Each field of the port, by itself and at the ends of what it may be, on each device.
func TestPortHasTheLinesFields(t *testing.T) {
	for what, n := range map[string]api.Net{"the whole": whole(), "three devices": crowd(3, 0), "eight devices": row(8), "39 ports": crowd(3, 39)} {
		for dev, d := range n.Devices {
			base := trunk(d.Name, "z9", 1000, 1001, 1002)
			port := api.Port{Row: 72, Dev: dev, Native: 1000, Cost: 19, Link: -1, Name: "z9", Tagged: []int{1001, 1002}}
			isPort(t, what, n, base, port, 1000, 1001, 1002)
			for _, at := range []int{least, -1, 0, 1, 72, 400, 401, 1 << 32, most} {
				l, p := base, port
				l.Row, p.Row = at, at
				isPort(t, what, n, l, p, 1000, 1001, 1002)
			}
			for _, cost := range []int{1, 2, 255, 256, mostShort - 1, mostShort} {
				l, p := base, port
				l.Cost, p.Cost = cost, cost
				isPort(t, what, n, l, p, 1000, 1001, 1002)
			}
			for _, s := range []string{"z", "zz", "z0123456789z", "p111", "access", "port"} {
				l, p := base, port
				l.Port, p.Name = s, s
				isPort(t, what, n, l, p, 1000, 1001, 1002)
			}
			for _, vlan := range []int{100, 101, 1003, 2048, mostVlan - 1} {
				l, p := base, port
				l.Vlan, p.Native = vlan, vlan
				isPort(t, what, n, l, p, vlan, 1001, 1002)
			}
			for _, tagged := range [][]int{{1001}, {101, 999, 1001, 4093}, counted(200, 15), counted(200, 16)} {
				l, p := base, port
				l.Tagged, p.Tagged = tagged, tagged
				isPort(t, what, n, l, p, append([]int{1000}, tagged...)...)
			}
		}
	}
}

// An access port, a trunk with a native VLAN and one without, on a device without a domain.
func TestPortOfEachForm(t *testing.T) {
	for count := 1; count <= mostDevices; count++ {
		n := row(count)
		dev, last := count-1, n.Devices[count-1].Name
		isPort(t, "access", n, access(last, "p1", 10), api.Port{Row: 71, Dev: dev, Native: 10, Cost: 4, Link: -1, Name: "p1"}, 10)
		isPort(t, "access, an empty list", n, api.Line{Row: 3, Kind: 2, Dev: last, Port: "p1", Cost: 9, Vlan: 10, Tagged: []int{}}, api.Port{Row: 3, Dev: dev, Native: 10, Cost: 9, Link: -1, Name: "p1"}, 10)
		isPort(t, "native and tagged", n, trunk(last, "p1", 30, 10, 20), api.Port{Row: 72, Dev: dev, Native: 30, Cost: 19, Link: -1, Name: "p1", Tagged: []int{10, 20}}, 30, 10, 20)
		isPort(t, "native alone", n, trunk(last, "p1", 30), api.Port{Row: 72, Dev: dev, Native: 30, Cost: 19, Link: -1, Name: "p1"}, 30)
		isPort(t, "tagged alone", n, trunk(last, "p1", 0, 10, 20), api.Port{Row: 72, Dev: dev, Cost: 19, Link: -1, Name: "p1", Tagged: []int{10, 20}}, 10, 20)
		isPort(t, "one tagged alone", n, trunk(last, "p1", 0, mostVlan), api.Port{Row: 72, Dev: dev, Cost: 19, Link: -1, Name: "p1", Tagged: []int{mostVlan}}, mostVlan)
		isPort(t, "the least and the greatest VLAN", n, trunk(last, "p1", mostVlan, 1), api.Port{Row: 72, Dev: dev, Native: mostVlan, Cost: 19, Link: -1, Name: "p1", Tagged: []int{1}}, mostVlan, 1)
	}
}

// The domain of the native VLAN stands ahead of those of the tagged ones, wherever its number lies between theirs.
func TestPortsDomainsInOrder(t *testing.T) {
	for _, native := range []int{5, 15, 25, 35, mostVlan} {
		makes(t, "native and tagged", row(2), trunk("sw2", "p", native, 10, 20, 30), 1, native, 10, 20, 30)
		makes(t, "some of them there", whole(), trunk("d", "z", native, 10, 20, 30), 3, native, 20, 30)
	}
	makes(t, "seventeen at once", row(1), trunk("sw1", "p", 8, append(counted(1, 7), counted(9, 9)...)...), 0, append(append([]int{8}, counted(1, 7)...), counted(9, 9)...)...)
}

// VLANs that have a domain on the device, on another one alone, and none; some of each in one line. The whole net's devices have the VLANs 10, 20 and 30; 10 and 30; 1, 40 and 4094; 10.
func TestPortMakesTheDomainsThatLack(t *testing.T) {
	n := whole()
	// All there.
	makes(t, "access, there", n, access("a", "z", 10), 0)
	makes(t, "access, the last one there", n, access("c", "z", 40), 2)
	makes(t, "native and tagged, there", n, trunk("a", "z", 20, 10, 30), 0)
	makes(t, "tagged, there", n, trunk("b", "z", 0, 10, 30), 1)
	makes(t, "one tagged, there", n, trunk("c", "z", 0, 4094), 2)
	// On another device alone.
	makes(t, "access, on another one", n, access("d", "z", 30), 3, 30)
	makes(t, "access, on a later one", n, access("a", "z", 40), 0, 40)
	makes(t, "tagged, on others", n, trunk("d", "z", 0, 1, 20, 4094), 3, 1, 20, 4094)
	makes(t, "native and tagged, on others", n, trunk("b", "z", 20, 1, 40), 1, 20, 1, 40)
	// On none.
	makes(t, "access, on none", n, access("b", "z", 11), 1, 11)
	makes(t, "native and tagged, on none", n, trunk("c", "z", 11, 2, 4093), 2, 11, 2, 4093)
	// Some of each.
	makes(t, "native there, tagged on another one and on none", n, trunk("a", "z", 10, 11, 40), 0, 11, 40)
	makes(t, "native on another one, tagged there and on none", n, trunk("d", "z", 20, 10, 50), 3, 20, 50)
	makes(t, "native on none, tagged there and on another one", n, trunk("b", "z", 7, 1, 10, 20, 30, 40), 1, 7, 1, 20, 40)
	makes(t, "tagged there, on another one and on none, in turn", n, trunk("c", "z", 0, 1, 2, 10, 20, 40, 50, 4094), 2, 2, 10, 20, 50)
	makes(t, "the first one there", n, trunk("d", "z", 0, 10, 11, 12), 3, 11, 12)
	makes(t, "a middle one there", n, trunk("d", "z", 0, 9, 10, 12), 3, 9, 12)
	makes(t, "the last one there", n, trunk("d", "z", 0, 8, 9, 10), 3, 8, 9)
	// What a port made is there for the next one.
	n = makes(t, "a port", n, trunk("d", "z", 7, 8), 3, 7, 8)
	n = makes(t, "the next one", n, trunk("d", "zz", 8, 7, 9), 3, 9)
	n = makes(t, "another device's", n, trunk("c", "z", 8, 7, 9), 2, 8, 7, 9)
	makes(t, "a port that has all there", n, trunk("d", "zzz", 9, 7, 8, 10), 3)
	// A domain that no port has.
	n = row(2)
	n.Domains = []api.Domain{{Dev: 1, Vlan: 10, Vni: 7, Irb: -1, Row: 6}}
	makes(t, "a domain without a port", n, access("sw2", "p", 10), 1)
	makes(t, "another device's domain without a port", n, access("sw1", "p", 10), 0, 10)
	// One that lies behind the list's end is none.
	n.Domains = n.Domains[:0]
	makes(t, "a domain behind the end", n, access("sw2", "p", 10), 1, 10)
}

// Names that no device has, where other things have them, and where devices' names are alike but for their case or their end.
func TestPortOfNoDevice(t *testing.T) {
	for of, n := range goods() {
		for _, dev := range []string{"z", "aa", "p1", "p0", "red", "blue", "sw", "sw0", "sw12", "sw11", "swi"} {
			isRefused(t, of, ports.Port, n, access(dev, "z", 1), name)
			isRefused(t, of, ports.Port, n, access(dev, "p1", 1), name)
			isRefused(t, of, ports.Port, n, trunk(dev, "z", 0, 10, 20), name)
		}
	}
	for _, there := range []string{"SW1", "Sw1", "sW1", "sw", "sw11", "sw10", "sw2", "w1", "sw1 ", " sw1", "sw1\x00", "xsw1", "sw01", ""} {
		for at := range 3 {
			n := row(3)
			n.Devices[0].Name, n.Devices[1].Name, n.Devices[2].Name = "a", "b", "c"
			n.Devices[at].Name = there
			isRefused(t, fmt.Sprintf("%q is there at %d", there, at), ports.Port, n, access("sw1", "p", 10), name)
			n.Devices[at].Name = "sw1"
			makes(t, fmt.Sprintf("sw1 is there at %d", at), n, access("sw1", "p", 10), at, 10)
		}
	}
	// Of two of one name the first one is taken; a name behind the list's end is none.
	n := row(4)
	n.Devices[1].Name, n.Devices[2].Name = "b", "b"
	makes(t, "two of one name", n, access("b", "p", 10), 1, 10)
	n.Devices = n.Devices[:3]
	isRefused(t, "a device behind the end", ports.Port, n, access("sw4", "p", 10), name)
}

// A port's name on its own device, and on another one.
func TestPortThatIsThere(t *testing.T) {
	for of, n := range map[string]api.Net{"the whole": whole(), "the net of peers": met(), "39 ports": crowd(9, 39)} {
		for i, p := range n.Ports {
			for dev, d := range n.Devices {
				what := fmt.Sprint(of, ": the name of ", i, " on the device ", dev)
				there := slices.ContainsFunc(n.Ports, func(o api.Port) bool { return o.Dev == dev && o.Name == p.Name })
				if there || dev == p.Dev {
					isRefused(t, what, ports.Port, n, access(d.Name, p.Name, 1), twice)
					isRefused(t, what, ports.Port, n, access(d.Name, p.Name, 99), twice)
					isRefused(t, what, ports.Port, n, trunk(d.Name, p.Name, p.Native, 98, 99), twice)
				} else {
					makes(t, what, n, access(d.Name, p.Name, 99), dev, 99)
				}
			}
		}
	}
	n := whole()
	makes(t, "p2, which all but d have", n, access("d", "p2", 10), 3)
	// Names of other things.
	for _, port := range []string{"a", "b", "d", "red", "blue"} {
		makes(t, port, n, access("a", port, 10), 0)
	}
	// What was put is there.
	n = makes(t, "a port", n, access("b", "z", 10), 1)
	isRefused(t, "the port again", ports.Port, n, access("b", "z", 10), twice)
	isRefused(t, "its name again", ports.Port, n, trunk("b", "z", 0, 98), twice)
	makes(t, "its name on another device", n, access("c", "z", 1), 2)
	// A port behind the list's end is none.
	n.Ports = n.Ports[:7]
	makes(t, "a port behind the end", n, access("b", "z", 30), 1)
}

// Names that are alike but for their case, their end or their beginning.
func TestPortOfNamesThatAreAlike(t *testing.T) {
	for _, there := range []string{"PORT1", "Port1", "port", "port11", "port10", "port2", "ort1", "port1 ", " port1", "port1\x00", "xport1", "port01", ""} {
		for at := range 3 {
			n := crowd(3, 9)
			for i := range n.Ports {
				n.Ports[i].Dev = 1
			}
			n.Ports[4*at].Name = there
			makes(t, fmt.Sprintf("%q is there at %d", there, 4*at), n, access("sw2", "port1", 1), 1)
			n.Ports[4*at].Name = "port1"
			isRefused(t, fmt.Sprintf("port1 is there at %d", 4*at), ports.Port, n, access("sw2", "port1", 1), twice)
			makes(t, fmt.Sprintf("port1 is there at %d of sw2", 4*at), n, access("sw1", "port1", 1), 0)
			makes(t, fmt.Sprintf("port1 is there at %d of sw2", 4*at), n, access("sw3", "port1", 1), 2)
		}
	}
}

// Thirty-nine, forty and forty-one ports, with domains that are there and with some that are not; and one after another from none on.
func TestPortAtTheLimitOfPorts(t *testing.T) {
	for count := range mostPorts {
		n := crowd(9, count)
		makes(t, fmt.Sprint(count, " ports"), n, access("sw3", "z", 1), 2)
		makes(t, fmt.Sprint(count, " ports, with domains"), n, trunk("sw2", "z", 9, 1, 10), 1, 9, 10)
	}
	for _, l := range []api.Line{access("sw3", "z", 1), access("sw1", "z", 99), trunk("sw2", "z", 1, 2, 3), trunk("sw2", "z", 0, 98, 99)} {
		isRefused(t, "40 ports", ports.Port, crowd(9, 40), l, big)
		isRefused(t, "40 ports and 48 domains", ports.Port, crowd(48, 40), l, big)
		for _, count := range []int{41, 42, 64, 300} {
			isRefused(t, fmt.Sprint(count, " ports"), ports.Port, crowd(9, count), l, arg)
		}
	}
	n := row(3)
	for i := range mostPorts {
		l := access(fmt.Sprint("sw", i%3+1), fmt.Sprint("p", i), 1)
		if i < 3 {
			n = makes(t, fmt.Sprint("port ", i), n, l, i%3, 1)
		} else {
			n = makes(t, fmt.Sprint("port ", i), n, l, i%3)
		}
	}
	for range 2 {
		isRefused(t, "the forty-first", ports.Port, n, access("sw1", "z", 1), big)
	}
	// Room behind the list is none that counts.
	n.Ports = n.Ports[:39]
	makes(t, "39 of 40", n, access("sw3", "z", 1), 2)
}

// So many domains there, and so many that a port would make at once: none to seventeen, with its native VLAN and without, beside some that are there.
func TestPortAtTheLimitOfDomains(t *testing.T) {
	for count := 3; count <= mostDomains; count++ {
		n := crowd(count, 5)
		for more := range mostTagged + 2 {
			what := fmt.Sprint(count, " domains and ", more, " more")
			tagged := counted(1001, more)
			lines := map[*api.Line][]int{}
			if more <= mostTagged {
				l := trunk("sw2", "z", 1, tagged...) // the native one is there
				lines[&l] = tagged
			}
			if more > 0 {
				l := trunk("sw2", "z", 1000, tagged[:more-1]...)
				lines[&l] = append([]int{1000}, tagged[:more-1]...)
			}
			if more > 0 && more < mostTagged {
				l := trunk("sw2", "z", 0, append([]int{1}, tagged...)...) // the first one is there
				lines[&l] = tagged
			}
			for l, vlans := range lines {
				if count+more > mostDomains {
					isRefused(t, what, ports.Port, n, *l, big)
				} else {
					makes(t, what, n, *l, 1, vlans...)
				}
			}
		}
	}
	// Many that are there make none.
	makes(t, "48 domains, sixteen of which the port has", crowd(48, 39), trunk("sw3", "z", 16, counted(1, 15)...), 2)
	isRefused(t, "48 domains, fifteen of which the port has", ports.Port, crowd(48, 39), trunk("sw3", "z", 99, counted(1, 15)...), big)
	isRefused(t, "48 domains, all but the last of which the port has", ports.Port, crowd(48, 39), trunk("sw3", "z", 0, append(counted(1, 15), 99)...), big)
	for _, l := range []api.Line{access("sw1", "z", 1), access("sw1", "z", 99)} {
		for _, count := range []int{49, 50, 300} {
			isRefused(t, fmt.Sprint(count, " domains"), ports.Port, crowd(count, 5), l, arg)
		}
	}
	// One domain after another, and none once there are 48; ports of those that are there still are put.
	n := row(1)
	for i := range 30 {
		n = makes(t, fmt.Sprint("port ", i), n, access("sw1", fmt.Sprint("p", i), i+1), 0, i+1)
	}
	n = makes(t, "seventeen more", n, trunk("sw1", "q1", 47, counted(31, 16)...), 0, append([]int{47}, counted(31, 16)...)...)
	isRefused(t, "two more", ports.Port, n, trunk("sw1", "q2", 48, 49), big)
	n = makes(t, "the last one", n, trunk("sw1", "q2", 48, 47), 0, 48)
	isRefused(t, "one more", ports.Port, n, access("sw1", "q3", 49), big)
	n = makes(t, "none more", n, trunk("sw1", "q3", 48, counted(1, 16)...), 0)
	isRefused(t, "one more", ports.Port, n, access("sw1", "q4", 49), big)
	// Room behind the list is none that counts.
	n.Domains, n.Ports = n.Domains[:47], n.Ports[:31]
	makes(t, "47 of 48", n, access("sw1", "z", 99), 0, 99)
}

// wrongPorts are lines that are a port's but for one thing, which may not be.
func wrongPorts(dev, port string) map[string]api.Line {
	l := map[string]api.Line{}
	for i, turn := range []func(l *api.Line){
		func(l *api.Line) { l.Dev = "" },
		func(l *api.Line) { l.Dev = "A" },
		func(l *api.Line) { l.Dev = "9a" },
		func(l *api.Line) { l.Dev = "abcdefghijklm" },
		func(l *api.Line) { l.Port = "" },
		func(l *api.Line) { l.Port = "P1" },
		func(l *api.Line) { l.Port = "1p" },
		func(l *api.Line) { l.Port = "p 1" },
		func(l *api.Line) { l.Port = "p.1" },
		func(l *api.Line) { l.Port = "abcdefghijklm" },
		func(l *api.Line) { l.Cost = 0 },
		func(l *api.Line) { l.Cost = -1 },
		func(l *api.Line) { l.Cost = mostShort + 1 },
		func(l *api.Line) { l.Cost = least },
		func(l *api.Line) { l.Cost = most },
		func(l *api.Line) { l.Vlan = -1 },
		func(l *api.Line) { l.Vlan = mostVlan + 1 },
		func(l *api.Line) { l.Vlan = least },
		func(l *api.Line) { l.Vlan = most },
		func(l *api.Line) { l.Vlan, l.Tagged = 0, nil },
		func(l *api.Line) { l.Vlan, l.Tagged = 0, []int{} },
		func(l *api.Line) { l.Tagged = []int{10} },
		func(l *api.Line) { l.Tagged = []int{1, 10, 20} },
		func(l *api.Line) { l.Tagged = []int{20, 1} },
		func(l *api.Line) { l.Tagged = []int{20, 20} },
		func(l *api.Line) { l.Tagged = []int{0} },
		func(l *api.Line) { l.Vlan, l.Tagged = 0, []int{0} },
		func(l *api.Line) { l.Tagged = []int{-1, 20} },
		func(l *api.Line) { l.Tagged = []int{20, mostVlan + 1} },
		func(l *api.Line) { l.Tagged = []int{20, most} },
		func(l *api.Line) { l.Tagged = counted(11, mostTagged+1) },
		func(l *api.Line) { l.Peer = "b" },
		func(l *api.Line) { l.Far = "p1" },
		func(l *api.Line) { l.Name = "red" },
		func(l *api.Line) { l.Mac = 1 },
		func(l *api.Line) { l.Addr = 1 },
		func(l *api.Line) { l.Bits = 1 },
		func(l *api.Line) { l.Num = 1 },
		func(l *api.Line) { l.Imports = []int{1} },
		func(l *api.Line) { l.Exports = []int{1} },
		func(l *api.Line) { l.Addrs = []uint32{1} },
		func(l *api.Line) { l.Kind = 0 },
		func(l *api.Line) { l.Kind = 1 },
		func(l *api.Line) { l.Kind = 3 },
		func(l *api.Line) { l.Kind = 4 },
		func(l *api.Line) { l.Kind = 9 },
		func(l *api.Line) { l.Kind = 10 },
		func(l *api.Line) { l.Kind = -2 },
		func(l *api.Line) { l.Kind = least },
		func(l *api.Line) { l.Kind = most },
	} {
		one := access(dev, port, 10)
		turn(&one)
		l[fmt.Sprint("wrong port ", i)] = one
	}
	return l
}

// Lines that may not be, where a right one would be put, where there is no such device, where it would be there already, and where there is no room.
func TestPortOfWrongLines(t *testing.T) {
	for what, l := range wrongPorts("sw1", "z") {
		for of, n := range goods() {
			isRefused(t, what+" of "+of, ports.Port, n, l, arg)
		}
	}
	for what, l := range wrongPorts("sw1", "p1") {
		isRefused(t, what+" that is there", ports.Port, crowd(9, 9), l, arg)
		isRefused(t, what+" that is there, without room", ports.Port, crowd(48, 40), l, arg)
	}
	for what, l := range wrongPorts("a", "z") {
		isRefused(t, what+" of the whole", ports.Port, whole(), l, arg)
	}
}

// Right lines of each other kind, with all else right.
func TestPortOfOtherKinds(t *testing.T) {
	all := append(others(), device("z", 4096, 99), device("a", 4096, 99), device("sw1", 4096, 1))
	for of, n := range goods() {
		for _, l := range all {
			isRefused(t, of, ports.Port, n, l, arg)
		}
	}
}

// Nets that may not be, with a line that would be put, one of no device, one that is there already, and one that may not be.
func TestPortOfWrongNets(t *testing.T) {
	for _, f := range faults() {
		n := whole()
		f.turn(&n)
		isRefused(t, f.what, ports.Port, n, access("a", "z", 10), arg)
		isRefused(t, f.what, ports.Port, n, trunk("sw1", "z", 1, 98, 99), arg)
		isRefused(t, f.what+", no device", ports.Port, n, access("zz", "z", 10), arg)
		isRefused(t, f.what+", a port that is there", ports.Port, n, access("a", "p1", 10), arg)
		isRefused(t, f.what+", a wrong line", ports.Port, n, access("a", "z", 0), arg)
		isRefused(t, f.what+", another kind", ports.Port, n, device("z", 4096, 99), arg)
	}
	isRefused(t, "a port of no device", ports.Port, api.Net{Ports: make([]api.Port, 1)}, access("a", "z", 10), arg)
	isRefused(t, "nothing", ports.Port, api.Net{}, access("a", "z", 10), name)
	// A net that may not be as it is, but would with the line.
	n := row(1)
	n.Ports = []api.Port{{Native: 10, Link: -1, Name: "p"}}
	isRefused(t, "a port without its domain", ports.Port, n, access("sw1", "z", 10), arg)
}

// Which error is told where two would fit: what is not there goes ahead of what is too much, and what is there already too; a line or a net that may not be goes ahead of all.
func TestPortsErrorsInOrder(t *testing.T) {
	for _, l := range []api.Line{access("zz", "z", 1), access("zz", "p1", 99), trunk("zz", "p40", 0, 98, 99)} {
		isRefused(t, "no device, and 40 ports", ports.Port, crowd(9, 40), l, name)
		isRefused(t, "no device, and 48 domains", ports.Port, crowd(48, 5), l, name)
		isRefused(t, "no device, and neither more ports nor domains", ports.Port, crowd(48, 40), l, name)
		isRefused(t, "no device, and 41 ports", ports.Port, crowd(9, 41), l, arg)
		isRefused(t, "no device, and 49 domains", ports.Port, crowd(49, 5), l, arg)
	}
	for _, l := range []api.Line{access("sw1", "p1", 1), access("sw1", "p1", 99), trunk("sw1", "p1", 0, 98, 99)} {
		isRefused(t, "a port that is there, of 40", ports.Port, crowd(9, 40), l, twice)
		isRefused(t, "a port that is there, of 48 domains", ports.Port, crowd(48, 5), l, twice)
		isRefused(t, "a port that is there, and neither more ports nor domains", ports.Port, crowd(48, 40), l, twice)
		isRefused(t, "a port that is there, of 41", ports.Port, crowd(9, 41), l, arg)
		isRefused(t, "a port that is there, of 49 domains", ports.Port, crowd(49, 5), l, arg)
	}
	isRefused(t, "a wrong line of no device", ports.Port, crowd(9, 9), access("zz", "z", 0), arg)
	isRefused(t, "a wrong line, and 40 ports", ports.Port, crowd(9, 40), access("sw1", "z", 0), arg)
	isRefused(t, "a wrong line, and 48 domains", ports.Port, crowd(48, 5), access("sw1", "z", mostVlan+1), arg)
	isRefused(t, "another kind, and neither more ports nor domains", ports.Port, crowd(48, 40), device("z", 4096, 99), arg)
}

// Each net with ports of each device, name and form, held against what the chapter says.
func TestPortAsTheChapterSays(t *testing.T) {
	forms := []struct {
		native int
		tagged []int
	}{
		{native: 1}, {native: 10}, {native: 30}, {native: 4094}, {native: 4095}, {}, {native: -1},
		{tagged: []int{1}}, {tagged: []int{10, 20}}, {tagged: counted(1, 16)}, {tagged: counted(90, 16)}, {tagged: counted(1, 17)}, {tagged: []int{20, 10}},
		{10, []int{20, 30}}, {20, []int{10, 11}}, {7, []int{1, 2, 3, 4, 5, 6}}, {7, []int{1, 7}}, {100, counted(1, 16)}, {17, counted(1, 16)}, {4094, []int{1, 40}},
	}
	for what, n := range goods() {
		for _, dev := range []string{"a", "b", "c", "d", "sw1", "sw3", "sw8", "sw9", ""} {
			for _, port := range []string{"p1", "p2", "p3", "p0", "p40", "z", ""} {
				for _, f := range forms {
					isSaid(t, what, n, trunk(dev, port, f.native, f.tagged...))
				}
			}
		}
	}
}
