package domains_test

import (
	"fmt"
	"strings"
	"testing"

	"paling/api"
	"paling/domains"
	"paling/names"
	"paling/stmt"
)

// P18.1

// Each field of the static entry, of a net written out; each further one stands behind all others.
func TestStaticIsPut(t *testing.T) {
	n := api.Net{
		Devices: []api.Device{{Name: "a"}, {Name: "b"}},
		Ports:   []api.Port{{Name: "p", Native: 10, Link: -1}, {Dev: 1, Name: "q", Native: 20, Link: -1}, {Dev: 1, Name: "p", Native: 10, Tagged: []int{20}, Link: -1}},
		Domains: []api.Domain{{Dev: 1, Vlan: 20, Irb: -1}, {Vlan: 10, Irb: -1}, {Dev: 1, Vlan: 10, Irb: -1}},
	}
	want := []api.Static{{Row: 7, Domain: 0, Port: 2, Mac: 9}, {Row: 3, Domain: 1, Port: 0, Mac: 9}, {Row: 7, Domain: 0, Port: 1, Mac: 2}, {Row: 400, Domain: 2, Port: 2, Mac: 1}}
	for i, l := range []api.Line{
		{Row: 7, Kind: 4, Dev: "b", Vlan: 20, Mac: 9, Port: "p"},
		{Row: 3, Kind: 4, Dev: "a", Vlan: 10, Mac: 9, Port: "p"},
		{Row: 7, Kind: 4, Dev: "b", Vlan: 20, Mac: 2, Port: "q"},
		{Row: 400, Kind: 4, Dev: "b", Vlan: 10, Mac: 1, Port: "p"},
	} {
		var e api.Errno
		if n, e = domains.Static(n, l); e != ok || len(n.Statics) != i+1 {
			t.Fatalf("%d: %+v, %d", i, n.Statics, e)
		}
		for at, s := range n.Statics {
			if s != want[at] {
				t.Errorf("%d: the static entry %d is %+v, not %+v", i, at, s, want[at])
			}
		}
	}
}

func TestTheChaptersExample(t *testing.T) {
	n := api.Net{
		Devices: []api.Device{{Name: "a", Mac: 1}},
		Ports:   []api.Port{{Name: "q", Native: 10, Link: -1}, {Name: "p", Native: 20, Link: -1, Tagged: []int{10}}},
		Domains: []api.Domain{{Vlan: 20, Irb: -1}, {Vlan: 10, Irb: -1}},
	}
	l, e := stmt.Read(strings.Fields("static a 10 00:00:00:00:00:02 p"), 5)
	if e != ok {
		t.Fatal(e)
	}
	leads(t, "not put", n, 1, 2, -1)
	if n, e = domains.Static(n, l); e != ok {
		t.Fatal(e)
	}
	leads(t, "put", n, 1, 2, 1)
	leads(t, "the other domain", n, 0, 2, -1)
	if n.Statics[0] != (api.Static{Row: 5, Domain: 1, Port: 1, Mac: 2}) {
		t.Errorf("%+v", n.Statics[0])
	}
}

// Each port of a net in each VLAN: one that it has is put, natively and tagged, with a link and without one; one that it has not is refused, whether or not its device, or another one alone, has a domain of it.
func TestStaticOfEachPortAndVlan(t *testing.T) {
	for what, n := range goods() {
		if len(n.Statics) == mostStatics || what == "no names" {
			continue
		}
		natives, tagged, none := 0, 0, 0
		for at, p := range n.Ports {
			for _, vlan := range []int{1, 2, 3, 4, 7, 10, 20, 30, 40, 70, 700, 999, 4093, 4094} {
				l := static(n.Devices[p.Dev].Name, vlan, 99, p.Name)
				if !has(p, vlan) {
					isRefused(t, what, n, l, member)
					none++
					continue
				}
				if makes(t, what, n, l, names.Domain(n, p.Dev, vlan), at); vlan == p.Native {
					natives++
				} else {
					tagged++
				}
			}
		}
		if len(n.Ports) > 0 && (natives < 4 || tagged < 4 || none < 10) {
			t.Errorf("%s: %d native VLANs, %d tagged ones, %d of none", what, natives, tagged, none)
		}
	}
	n := whole()
	makes(t, "the native one of an access port", n, static("a", 10, 99, "p1"), 0, 0)
	makes(t, "the native one of a trunk", n, static("c", 4094, 99, "p2"), 6, 5)
	makes(t, "a tagged one", n, static("c", 1, 99, "p2"), 5, 5)
	makes(t, "the last one tagged", n, static("c", 40, 99, "p2"), 8, 5)
	makes(t, "a tagged one of a trunk without a native one", n, static("b", 10, 99, "p1"), 3, 2)
	makes(t, "a port with a link", n, static("a", 30, 99, "p2"), 2, 1)
}

// No domain of the device and the VLAN, on no device at all, and on another one alone; a port that has not the VLAN, though another one of its device has it.
func TestStaticOfNoMember(t *testing.T) {
	n := whole()
	for what, l := range map[string]api.Line{
		"a VLAN that no device has":                  static("a", 11, 99, "p1"),
		"a VLAN that c alone has":                    static("a", 40, 99, "p1"),
		"a VLAN that c alone has, on d":              static("d", 4094, 99, "p1"),
		"a VLAN that a and b alone have":             static("c", 10, 99, "p1"),
		"a VLAN that another port of a has":          static("a", 20, 99, "p1"),
		"a VLAN that is tagged on another port of a": static("a", 30, 99, "p1"),
		"a VLAN that is native on another port of b": static("b", 40, 99, "p2"),
		"a tagged one of another port of b":          static("b", 10, 99, "p2"),
		"a port of that name that has it, of b":      static("d", 30, 99, "p1"),
	} {
		isRefused(t, what, n, l, member)
	}
	// Each VLAN there can be, but for those of the port.
	n = api.Net{Devices: []api.Device{{Name: "a"}}, Ports: []api.Port{{Name: "p", Native: 2047, Tagged: []int{1, 4094}, Link: -1}, {Name: "q", Native: 2046, Link: -1}}}
	for _, vlan := range []int{2047, 1, 4094, 2046, 2048} {
		n.Domains = append(n.Domains, api.Domain{Vlan: vlan, Irb: -1})
	}
	for vlan := 1; vlan <= mostVlan; vlan++ {
		l := static("a", vlan, 99, "p")
		switch vlan {
		case 2047:
			makes(t, "native", n, l, 0, 0)
		case 1, 4094:
			makes(t, "tagged", n, l, 1+vlan/4094, 0)
		default:
			isRefused(t, "none of the port's", n, l, member)
		}
	}
	// What lies behind the end of a port's VLANs, or of the domains, is none.
	n = filled(0)
	n.Ports[0].Tagged = n.Ports[0].Tagged[:1]
	makes(t, "a VLAN ahead of the end", n, static("sw1", 20, 99, "p1"), 1, 0)
	isRefused(t, "a VLAN behind the end", n, static("sw1", 30, 99, "p1"), member)
	n.Ports, n.Domains = n.Ports[:2], n.Domains[:2]
	makes(t, "a domain ahead of the end", n, static("sw1", 20, 99, "p1"), 1, 0)
	isRefused(t, "a domain behind the end", n, static("sw1", 30, 99, "p1"), member)
}

// No device Dev, no port of it, each with all else right; a port of that name on another device.
func TestStaticOfNoPort(t *testing.T) {
	n := whole()
	makes(t, "all there", n, static("a", 20, 99, "p2"), 1, 1)
	for what, l := range map[string]api.Line{
		"no Dev":             static("z", 20, 99, "p2"),
		"no Port":            static("a", 20, 99, "p3"),
		"neither":            static("z", 20, 99, "p3"),
		"p2 of d":            static("d", 10, 99, "p2"),
		"a VRF as a Dev":     static("red", 20, 99, "p2"),
		"a VRF as a Port":    static("a", 20, 99, "red"),
		"a port as a Dev":    static("p2", 20, 99, "p2"),
		"a device as a Port": static("a", 20, 99, "a"),
	} {
		isRefused(t, what, n, l, name)
	}
	// Each port by its own device's name, and by each other one's that has none of that name.
	n = filled(3)
	for i := range n.Ports {
		n.Ports[i].Name = fmt.Sprint("p", i)
	}
	for i, p := range n.Ports {
		for d, device := range n.Devices {
			l := static(device.Name, 10, 99, p.Name)
			if d == p.Dev {
				makes(t, p.Name, n, l, 3*d, i)
			} else {
				isRefused(t, p.Name+" of another device", n, l, name)
			}
		}
	}
	for of, n := range goods() {
		isRefused(t, of, n, static("z", 10, 99, "p1"), name)
	}
	isRefused(t, "devices without ports", row(8), static("sw1", 10, 99, "p1"), name)
}

// Names that are alike but for their case, their end or their beginning.
func TestStaticOfNamesThatAreAlike(t *testing.T) {
	for _, there := range []string{"SW1", "Sw1", "sw", "sw11", "sw10", "sw3", "w1", "sw1 ", " sw1", "sw1\x00", "xsw1", "sw01", ""} {
		n := row(2)
		n.Ports = []api.Port{{Native: 1, Link: -1, Name: "sw1"}, {Dev: 1, Native: 1, Link: -1, Name: "sw2"}}
		n.Domains = []api.Domain{{Vlan: 1, Irb: -1}, {Dev: 1, Vlan: 1, Irb: -1}}
		makes(t, "all there", n, static("sw1", 1, 99, "sw1"), 0, 0)
		n.Devices[0].Name = there
		isRefused(t, fmt.Sprintf("the device %q", there), n, static("sw1", 1, 99, "sw1"), name)
		n.Devices[0].Name, n.Ports[0].Name = "sw1", there
		isRefused(t, fmt.Sprintf("the port %q", there), n, static("sw1", 1, 99, "sw1"), name)
	}
}

// Of several of one name the first one is taken; what lies behind a list's end is none.
func TestStaticOfTheFirstOfAName(t *testing.T) {
	n := filled(0)
	n.Devices[1].Name = "sw1"
	makes(t, "the first sw1", n, static("sw1", 10, 99, "p1"), 0, 0)
	n.Ports[1].Name = "q"
	n.Ports[3].Name = "r"
	isRefused(t, "the second sw1's r", n, static("sw1", 10, 99, "r"), name)
	n.Ports[1].Name = "p1"
	makes(t, "the first p1 of it", n, static("sw1", 10, 99, "p1"), 0, 0)
	isRefused(t, "a VLAN that neither has", n, static("sw1", 40, 99, "p1"), member)
	n.Ports[0].Native, n.Ports[0].Tagged = 30, []int{20}
	isRefused(t, "a VLAN that its second p1 has", n, static("sw1", 10, 99, "p1"), member)
	n = filled(0)
	n.Ports = n.Ports[:3]
	isRefused(t, "a port behind the end", n, static("sw2", 10, 99, "p2"), name)
	makes(t, "the last port", n, static("sw2", 10, 99, "p1"), 3, 2)
	n.Devices, n.Ports, n.Domains = n.Devices[:1], n.Ports[:2], n.Domains[:3]
	isRefused(t, "a device behind the end", n, static("sw2", 10, 99, "p1"), name)
}

// A static entry of that domain and address, of that address in another domain, of another address in that domain; first of all, last of all, by another port of the domain, and with another row.
func TestStaticTwice(t *testing.T) {
	n := whole()
	isRefused(t, "the first one", n, static("a", 10, 7, "p2"), twice)
	isRefused(t, "the first one, by another port", n, static("a", 10, 7, "p1"), twice)
	isRefused(t, "one between", n, static("a", 20, 8, "p2"), twice)
	isRefused(t, "one further between", n, static("c", 4094, 9, "p2"), twice)
	isRefused(t, "the last one, of the address 0", n, static("d", 10, 0, "p1"), twice)
	makes(t, "that address in another domain of the device", n, static("a", 20, 7, "p2"), 1, 1)
	makes(t, "that address in a domain of that VLAN of another device", n, static("b", 10, 7, "p1"), 3, 2)
	makes(t, "that address in a domain of the mesh", n, static("c", 40, 7, "p1"), 8, 4)
	makes(t, "the address of another domain", n, static("a", 10, 8, "p2"), 0, 1)
	makes(t, "the address 0 in another domain", n, static("a", 10, 0, "p1"), 0, 0)
	makes(t, "another address in that domain", n, static("a", 10, 6, "p2"), 0, 1)
	for bit := range 48 {
		if bit != 40 && bit != 41 { // with those it is a group's, and a host's
			makes(t, fmt.Sprint("the bit ", bit, " of that address"), n, static("a", 10, 7^1<<bit, "p2"), 0, 1)
		}
	}
	l := static("a", 10, 7, "p2")
	l.Row = 20
	isRefused(t, "that row, too", n, l, twice)
	// What was put is there.
	n = makes(t, "one more", n, static("b", 30, 5, "p2"), 4, 3)
	isRefused(t, "it again", n, static("b", 30, 5, "p2"), twice)
	isRefused(t, "it again, by another port", n, static("b", 30, 5, "p1"), twice)
	// What lies behind the end of the list is none.
	n.Statics = n.Statics[:3]
	makes(t, "one behind the end", n, static("d", 10, 0, "p1"), 7, 6)
	// A net may have addresses of more than 48 bits, which are no line's.
	n.Statics[0].Mac |= 1 << 48
	makes(t, "an address of 49 bits", n, static("a", 10, 7, "p2"), 0, 1)
}

// Each address of all the entries of a net that is full but for one, in each domain.
func TestStaticTwiceAmongMany(t *testing.T) {
	n := filled(63)
	count := 0
	for mac := range uint64(66) {
		for domain := range n.Domains {
			l := into(n, domain, domain/3*2, mac)
			if mac >= 1 && mac <= 63 && int(mac-1)%6 == domain {
				isRefused(t, "there", n, l, twice)
				count++
			} else {
				makes(t, "not there", n, l, domain, domain/3*2)
			}
		}
	}
	if count != 63 {
		t.Errorf("%d are there", count)
	}
}

// The row is the line's, whatever it is.
func TestStaticHasTheLinesRow(t *testing.T) {
	for _, at := range []int{least, -1, 0, 1, 12, 90, 400, 401, 1 << 32, most} {
		l := static("a", 20, 99, "p2")
		l.Row = at
		got := makes(t, "a row", whole(), l, 1, 1)
		if want := (api.Static{Row: at, Domain: 1, Port: 1, Mac: 99}); got.Statics[4] != want {
			t.Errorf("%+v, not %+v", got.Statics[4], want)
		}
	}
}

// Each address that a line may have is put as it is; a group's, a host's and numbers of more than 48 bits are none.
func TestStaticOfAddresses(t *testing.T) {
	n := whole()
	for _, mac := range []uint64{0, 1, 7, 99, 1<<32 - 1, 1 << 32, 1<<40 - 1, 0x020100000000, 0x02ffffffffff, 0x040000000000, 0x800000000000, greatest - 1, greatest} {
		got := makes(t, fmt.Sprintf("%x", mac), n, static("a", 20, mac, "p2"), 1, 1)
		leads(t, fmt.Sprintf("%x", mac), got, 1, mac, 1)
	}
	for _, mac := range []uint64{1 << 40, 1<<40 | 1, 1<<48 - 1, 0x020000000000, 0x020000000001, 0x02000a000001, 0x0200ffffffff, 1 << 48, 1<<48 | 99, 1<<64 - 1} {
		isRefused(t, fmt.Sprintf("%x", mac), n, static("a", 20, mac, "p2"), arg)
	}
}

// Empty lists of a line are as good as none.
func TestStaticOfEmptyLists(t *testing.T) {
	l := static("a", 20, 99, "p2")
	l.Tagged, l.Imports, l.Exports, l.Addrs = []int{}, []int{}, []int{}, []uint32{}
	makes(t, "empty lists", whole(), l, 1, 1)
}

// Sixty-three static entries, sixty-four and sixty-five; and from none on, one after another.
func TestStaticAtTheLimit(t *testing.T) {
	for count := range mostStatics {
		makes(t, fmt.Sprint(count, " static entries"), filled(count), static("sw1", 20, 999, "p1"), 1, 0)
	}
	for domain := range 6 {
		full := filled(mostStatics)
		isRefused(t, "64 static entries", full, into(full, domain, domain/3*2, 999), big)
		full.Statics = full.Statics[:63]
		makes(t, "63 of 64 static entries", full, into(full, domain, domain/3*2, 999), domain, domain/3*2)
	}
	for _, count := range []int{65, 66, 128, 300} {
		n := filled(count)
		isRefused(t, fmt.Sprint(count, " static entries"), n, static("sw1", 20, 999, "p1"), arg)
		isRefused(t, fmt.Sprint(count, " static entries"), n, static("z", 20, 999, "p1"), arg)
	}
	n := filled(0)
	for i := range mostStatics {
		n = makes(t, fmt.Sprint("entry ", i), n, into(n, i%6, i%6/3*2, uint64(i/6)), i%6, i%6/3*2)
	}
	isRefused(t, "the sixty-fifth", n, static("sw1", 20, 999, "p1"), big)
	isRefused(t, "the sixty-fifth, of another device", n, static("sw2", 30, 0, "p1"), twice)
}

// wrongLines are lines that are a static entry's but for one thing, which may not be.
func wrongLines(right api.Line) map[string]api.Line {
	l := map[string]api.Line{}
	for _, word := range []string{"", "A", "9a", "a b", "a-b", "a.b", "-", "a\x00", "abcdefghijklm"} {
		one := right
		one.Dev = word
		l[fmt.Sprintf("the Dev %q", word)] = one
		one = right
		one.Port = word
		l[fmt.Sprintf("the Port %q", word)] = one
	}
	for _, vlan := range []int{least, -4094, -10, -1, 0, 4095, 4096, 1<<16 + 10, 1<<32 + 10, most} {
		one := right
		one.Vlan = vlan
		l[fmt.Sprint("the Vlan ", vlan)] = one
	}
	for _, mac := range []uint64{1 << 40, 1<<48 - 1, 0x020000000000, 0x02000a000001, 0x0200ffffffff, 1 << 48, 1<<48 | 7, 1<<64 - 1} {
		one := right
		one.Mac = mac
		l[fmt.Sprintf("the Mac %x", mac)] = one
	}
	for i, turn := range []func(l *api.Line){
		func(l *api.Line) { l.Name = "red" },
		func(l *api.Line) { l.Peer = "b" },
		func(l *api.Line) { l.Far = "p1" },
		func(l *api.Line) { l.Addr = 1 },
		func(l *api.Line) { l.Bits = 1 },
		func(l *api.Line) { l.Num = 1 },
		func(l *api.Line) { l.Cost = 4 },
		func(l *api.Line) { l.Tagged = []int{10} },
		func(l *api.Line) { l.Imports = []int{1} },
		func(l *api.Line) { l.Exports = []int{1} },
		func(l *api.Line) { l.Addrs = []uint32{1} },
	} {
		one := right
		turn(&one)
		l[fmt.Sprint("the field ", i)] = one
	}
	for _, kind := range []int{least, -4, -1, 0, 1, 2, 3, 5, 6, 7, 8, 9, 10, 11, 1<<32 + 4, most} {
		one := right
		one.Kind = kind
		l[fmt.Sprint("the kind ", kind)] = one
	}
	return l
}

// Lines that may not be, where a right one would be put, and where each other error would fit.
func TestStaticOfWrongLines(t *testing.T) {
	for _, right := range []api.Line{static("a", 20, 99, "p2"), static("z", 20, 99, "p2"), static("a", 11, 99, "p1"), static("a", 10, 7, "p1"), static("sw1", 20, 999, "p1")} {
		for what, l := range wrongLines(right) {
			for of, n := range goods() {
				isRefused(t, what+" of "+of, n, l, arg)
			}
		}
	}
	// A name that no line may have is none, though a device or a port has it.
	for _, word := range []string{"", "A", "9a", "a b", "a-b", "abcdefghijklm"} {
		n := filled(0)
		n.Devices[0].Name, n.Ports[2].Name = word, word
		isRefused(t, "a device's name that may not be", n, static(word, 10, 99, "p1"), arg)
		isRefused(t, "a port's name that may not be", n, static("sw2", 10, 99, word), arg)
	}
	isRefused(t, "no names at all", bare(), api.Line{Kind: 4, Vlan: 1}, arg)
	isRefused(t, "nothing", api.Net{}, api.Line{}, arg)
}

// others are right lines of each other kind, whose words fit the whole net.
func others() []api.Line {
	return []api.Line{
		{Row: 80, Kind: 1, Dev: "z", Num: 4096, Mac: 99},
		{Row: 80, Kind: 1, Dev: "a", Num: 4096, Mac: 7},
		{Row: 80, Kind: 2, Dev: "a", Port: "p1", Cost: 4, Vlan: 10},
		{Row: 80, Kind: 2, Dev: "a", Port: "p2", Cost: 4, Vlan: 20, Tagged: []int{10, 30}},
		{Row: 80, Kind: 3, Dev: "a", Port: "p1", Peer: "d", Far: "p1"},
		{Row: 80, Kind: 3, Dev: "z", Port: "p1", Peer: "d", Far: "p1"},
		{Row: 80, Kind: 5, Dev: "a", Addr: 99},
		{Row: 80, Kind: 6, Dev: "a", Vlan: 10, Num: 5010},
		{Row: 80, Kind: 7, Dev: "a", Num: 5010, Addrs: []uint32{2, 3}},
		{Row: 80, Kind: 8, Dev: "a", Name: "green", Imports: []int{1}, Exports: []int{1, 2}},
		{Row: 80, Kind: 9, Dev: "a", Vlan: 20, Name: "red", Addr: 0x0b000001, Bits: 24},
	}
}

// Right lines of each other kind, with all else right; of nets whose ports have no names, too, so that what a line does not name is there.
func TestStaticOfOtherKinds(t *testing.T) {
	for _, l := range others() {
		if !stmt.Right(l) {
			t.Fatalf("%+v may not be", l)
		}
		for of, n := range goods() {
			isRefused(t, of, n, l, arg)
		}
		n := whole()
		n.Ports[1].Name, n.Ports[6].Name = "", ""
		isRefused(t, "ports without names", n, l, arg)
		n.Devices[0].Name = "z"
		isRefused(t, "a device z", n, l, arg)
	}
}

// Nets that may not be, with a line that would be put, one for each other error, and ones that may not be.
func TestStaticOfWrongNets(t *testing.T) {
	for _, f := range faults() {
		n := whole()
		f.turn(&n)
		for what, l := range map[string]api.Line{
			"a static entry": static("a", 10, 99, "p1"), "one of d": static("d", 10, 99, "p1"), "no device": static("z", 10, 99, "p1"), "no port": static("a", 10, 99, "p9"),
			"no VLAN of it": static("a", 20, 99, "p1"), "one that is there": static("a", 10, 7, "p2"), "a wrong line": static("a", 0, 99, "p1"), "another kind": {Kind: 5, Dev: "a", Addr: 9},
		} {
			isRefused(t, f.what+", "+what, n, l, arg)
		}
	}
}

// Which error is told where two would fit, in the chapter's order.
func TestStaticsErrorsInOrder(t *testing.T) {
	full, many := filled(mostStatics), filled(65)
	for what, x := range map[string]struct {
		n    api.Net
		l    api.Line
		want api.Errno
	}{
		"no device, a VLAN that none has":           {whole(), static("z", 11, 99, "p1"), name},
		"no port, a VLAN that none has":             {whole(), static("a", 11, 99, "p9"), name},
		"no port, a VLAN that another device has":   {whole(), static("d", 20, 99, "p2"), name},
		"no port, an entry that is there":           {whole(), static("a", 10, 7, "p9"), name},
		"no device, an entry that is there":         {whole(), static("z", 10, 7, "p2"), name},
		"no port, 64 entries":                       {full, static("sw1", 20, 999, "p3"), name},
		"no device, 64 entries":                     {full, static("sw3", 20, 999, "p1"), name},
		"no port, an entry that is there, 64":       {full, static("sw1", 10, 1, "p3"), name},
		"no VLAN of it, an entry that is there":     {whole(), static("a", 20, 8, "p1"), member},
		"no VLAN of it, an entry elsewhere":         {whole(), static("a", 40, 7, "p1"), member},
		"no VLAN of it, 64 entries":                 {full, static("sw1", 20, 999, "p2"), member},
		"no domain, 64 entries":                     {full, static("sw1", 40, 999, "p1"), member},
		"no VLAN of it, an entry that is there, 64": {full, static("sw1", 20, 2, "p2"), member},
		"an entry that is there, 64":                {full, static("sw1", 10, 1, "p1"), twice},
		"the last entry, 64":                        {full, static("sw2", 10, 64, "p1"), twice},
		"64 entries":                                {full, static("sw2", 20, 64, "p1"), big},
		"64 entries, a wrong line":                  {full, static("sw2", 20, 1<<40, "p1"), arg},
		"64 entries, another kind":                  {full, api.Line{Kind: 5, Dev: "sw1", Addr: 1}, arg},
		"an entry that is there, a wrong line":      {whole(), api.Line{Kind: 4, Dev: "a", Vlan: 10, Mac: 7, Port: "p2", Num: 1}, arg},
		"no VLAN of it, a wrong line":               {whole(), static("a", 0, 99, "p1"), arg},
		"no device, a wrong line":                   {whole(), static("z", 10, 99, "-"), arg},
		"no device, another kind":                   {whole(), api.Line{Kind: 5, Dev: "z", Addr: 1}, arg},
		"65 entries, no device":                     {many, static("z", 20, 999, "p1"), arg},
		"65 entries, no VLAN of it":                 {many, static("sw1", 20, 999, "p2"), arg},
		"65 entries, one that is there":             {many, static("sw1", 10, 1, "p1"), arg},
		"65 entries":                                {many, static("sw1", 20, 999, "p1"), arg},
		"nothing but a wrong line":                  {api.Net{}, static("a", 10, 99, ""), arg},
		"nothing but a line":                        {api.Net{}, static("a", 10, 99, "p1"), name},
	} {
		isRefused(t, what, x.n, x.l, x.want)
	}
}

// Each net with lines of some names, VLANs and addresses, held against what the chapter says.
func TestStaticAsTheChapterSays(t *testing.T) {
	for of, n := range goods() {
		for _, dev := range []string{"a", "b", "c", "d", "sw1", "sw2", "sw8", "z", ""} {
			for _, port := range []string{"p0", "p1", "p2", "p8", "p99", "A"} {
				for _, vlan := range []int{0, 1, 2, 10, 20, 30, 40, 700, 4094, 4095} {
					for _, mac := range []uint64{0, 1, 7, 8, 9, 60, 1 << 40} {
						isSaid(t, of, n, static(dev, vlan, mac, port))
					}
				}
			}
		}
	}
}

// Nets that are built of lines drawn, each step held against what the chapter says, wrong lines too.
func TestNetsBuiltOfLines(t *testing.T) {
	var count [40]int
	for seed := range 100 {
		draw := draws(uint64(seed))
		n := drawn(draw)
		for range 150 {
			port := draw(len(n.Ports))
			l := into(n, draw(len(n.Domains)), port, uint64(draw(30)))
			if p := n.Ports[port]; p.Native != 0 && draw(2) == 0 {
				l.Vlan = p.Native
			}
			switch l.Row = draw(400); draw(12) {
			case 0:
				l.Port = "p" + fmt.Sprint(draw(45))
			case 1:
				l.Dev = "sw" + fmt.Sprint(draw(10))
			case 2:
				l.Kind = draw(11)
			case 3:
				l.Port = []string{"", "P1", "p1"}[draw(3)]
			}
			isSaid(t, fmt.Sprint("seed ", seed), n, l)
			more, e := domains.Static(n, l)
			if count[e]++; e == ok {
				n = more
			}
		}
	}
	for _, e := range []api.Errno{ok, arg, big, twice, name, member} {
		if count[e] < 100 {
			t.Errorf("the error %d is told %d times", e, count[e])
		}
	}
}
