package ports_test

import (
	"math"
	"reflect"
	"slices"
	"strconv"
	"testing"

	"paling/api"
	"paling/names"
	"paling/ports"
	"paling/stmt"
)

// What the document's limits are, and the errors that are told here, in numbers of the tests' own.
const (
	mostDevices = 8
	mostPorts   = 40
	mostDomains = 48
	mostTagged  = 16
	mostVlan    = 4094
	mostShort   = 65535

	ok    api.Errno = 0
	arg   api.Errno = 2
	big   api.Errno = 3
	twice api.Errno = 30
	name  api.Errno = 31
)

// Ends of a type's numbers.
const (
	least = math.MinInt
	most  = math.MaxInt
)

// put is one of the package's calls.
type put func(n api.Net, l api.Line) (api.Net, api.Errno)

// device is the line of a device.
func device(dev string, priority int, mac uint64) api.Line {
	return api.Line{Row: 70, Kind: 1, Dev: dev, Num: priority, Mac: mac}
}

// access is the line of an access port.
func access(dev, port string, vlan int) api.Line {
	return api.Line{Row: 71, Kind: 2, Dev: dev, Port: port, Cost: 4, Vlan: vlan}
}

// trunk is the line of a trunk, whose native VLAN is none if it is 0.
func trunk(dev, port string, native int, tagged ...int) api.Line {
	return api.Line{Row: 72, Kind: 2, Dev: dev, Port: port, Cost: 19, Vlan: native, Tagged: tagged}
}

// counted are so many numbers from first on.
func counted(first, count int) []int {
	var l []int
	for i := range count {
		l = append(l, first+i)
	}
	return l
}

// row is a net of so many devices, sw1 and so on, of the Macs 1 and so on, without anything else.
func row(count int) api.Net {
	var n api.Net
	for i := range count {
		n.Devices = append(n.Devices, api.Device{Row: i + 1, Priority: 4096 * i, Name: "sw" + strconv.Itoa(i+1), Mac: uint64(i + 1)})
	}
	return n
}

// crowd is a net of three devices, sw1 to sw3, that have so many domains and ports in turn.
// The VLANs of each rise from 1 on. The ports are p1 and so on, of the VLAN 1, so that there are as many domains as devices at least, if there are ports.
func crowd(domains, ports int) api.Net {
	n := row(3)
	for i := range domains {
		n.Domains = append(n.Domains, api.Domain{Dev: i % 3, Vlan: i/3 + 1, Irb: -1})
	}
	for i := range ports {
		n.Ports = append(n.Ports, api.Port{Row: 10 + i, Dev: i % 3, Native: 1, Cost: 4, Link: -1, Name: "p" + strconv.Itoa(i+1)})
	}
	return n
}

// whole is a net that has all there is: devices, links with access ports and with trunks, a mesh of three and one of two, static entries, flood lists, VRFs and interfaces.
func whole() api.Net {
	return api.Net{
		Devices: []api.Device{
			{Row: 1, Priority: 4096, Name: "a", Mac: 1, Vtep: 0x0a000001},
			{Row: 2, Priority: 8192, Name: "b", Mac: 2, Vtep: 0x0a000002},
			{Row: 3, Name: "c", Mac: 3, Vtep: 0x0a000003},
			{Row: 4, Name: "d", Mac: 0xfeffffffffff},
		},
		Ports: []api.Port{
			{Row: 5, Dev: 0, Native: 10, Cost: 4, Link: -1, Name: "p1"},
			{Row: 6, Dev: 0, Native: 20, Cost: 5, Link: 0, Name: "p2", Tagged: []int{10, 30}},
			{Row: 7, Dev: 1, Cost: 6, Link: 0, Name: "p1", Tagged: []int{10, 30}},
			{Row: 8, Dev: 1, Native: 30, Cost: 7, Link: 1, Name: "p2"},
			{Row: 9, Dev: 2, Native: 40, Cost: 8, Link: 1, Name: "p1"},
			{Row: 10, Dev: 2, Native: 4094, Cost: 9, Link: -1, Name: "p2", Tagged: []int{1, 40}},
			{Row: 11, Dev: 3, Native: 10, Cost: 10, Link: -1, Name: "p1"},
		},
		Links: []api.Link{{Row: 12, A: 1, B: 2}, {Row: 13, A: 4, B: 3}},
		Domains: []api.Domain{
			{Dev: 0, Vlan: 10, Vni: 5010, Irb: 0, Row: 14, Peers: []int{8, 3}},
			{Dev: 0, Vlan: 20, Irb: -1},
			{Dev: 0, Vlan: 30, Vni: 5030, Irb: 2, Row: 15, Peers: []int{4}},
			{Dev: 1, Vlan: 10, Vni: 5010, Irb: -1, Row: 16, Peers: []int{0, 8}},
			{Dev: 1, Vlan: 30, Vni: 5030, Irb: 1, Row: 17, Peers: []int{2}},
			{Dev: 2, Vlan: 1, Irb: -1},
			{Dev: 2, Vlan: 4094, Vni: 7, Irb: -1, Row: 18},
			{Dev: 3, Vlan: 10, Irb: 3},
			{Dev: 2, Vlan: 40, Vni: 5010, Irb: -1, Row: 19, Peers: []int{3, 0}},
		},
		Statics: []api.Static{
			{Row: 20, Domain: 0, Port: 1, Mac: 7},
			{Row: 21, Domain: 1, Port: 1, Mac: 8},
			{Row: 22, Domain: 6, Port: 5, Mac: 9},
			{Row: 23, Domain: 7, Port: 6},
		},
		Floods: []api.Flood{
			{Row: 24, Dev: 0, Vni: 5010, Addrs: []uint32{2, 3}},
			{Row: 25, Dev: 3, Vni: 9},
		},
		Vrfs: []api.Vrf{
			{Row: 26, Dev: 0, Name: "red", Imports: []int{1, 2}, Exports: []int{1, 65535}},
			{Row: 27, Dev: 1, Name: "red", Imports: []int{7}},
			{Row: 28, Dev: 0, Name: "blue", Exports: []int{9}},
			{Row: 29, Dev: 3, Name: "blue"},
		},
		Irbs: []api.Irb{
			{Row: 30, Domain: 0, Vrf: 2, Net: api.Prefix{Addr: 0x0a000001, Bits: 24}},
			{Row: 31, Domain: 4, Vrf: 1, Net: api.Prefix{Addr: 0x0a000101, Bits: 30}},
			{Row: 32, Domain: 2, Vrf: 0, Net: api.Prefix{Addr: 0x0a000201, Bits: 1}},
			{Row: 33, Domain: 7, Vrf: 3, Net: api.Prefix{Addr: 0x0a000301, Bits: 16}},
		},
	}
}

// met is a net of seven devices, each domain of which is a peer of those of all others, and has an interface: 42 domains of six VLANs, and 35 ports.
func met() api.Net {
	n := row(7)
	for d := range n.Devices {
		n.Devices[d].Vtep = uint32(d + 1)
		n.Vrfs = append(n.Vrfs, api.Vrf{Dev: d, Name: "red", Imports: counted(1, 16), Exports: counted(7, 16)})
		for vlan := range 6 {
			at := len(n.Domains)
			one := api.Domain{Dev: d, Vlan: vlan + 1, Vni: 1<<24 - 1, Irb: at}
			for i := range 42 {
				if i/6 != d {
					one.Peers = append(one.Peers, i)
				}
			}
			n.Domains = append(n.Domains, one)
			n.Irbs = append(n.Irbs, api.Irb{Domain: at, Vrf: d, Net: api.Prefix{Addr: uint32(at), Bits: 30}})
			n.Floods = append(n.Floods, api.Flood{Dev: d, Vni: vlan, Addrs: slices.Repeat([]uint32{7}, 16)})
		}
		for i := range 5 {
			tagged := slices.DeleteFunc(counted(1, 6), func(vlan int) bool { return vlan == i+1 })
			n.Ports = append(n.Ports, api.Port{Dev: d, Native: i + 1, Link: -1, Name: "p" + strconv.Itoa(i), Tagged: tagged})
		}
	}
	for i := range 64 {
		n.Statics = append(n.Statics, api.Static{Domain: i % 42, Port: i % 42 / 6 * 5, Mac: uint64(i)})
	}
	return n
}

// bare is a net whose devices have no names and one Mac, and whose only port has no name.
func bare() api.Net {
	return api.Net{Devices: make([]api.Device, 2), Ports: []api.Port{{Native: 1, Link: -1}}, Domains: []api.Domain{{Vlan: 1, Irb: -1}}}
}

// goods are nets that may be.
func goods() map[string]api.Net {
	return map[string]api.Net{
		"nothing": {}, "the whole": whole(), "the net of peers": met(), "no names": bare(),
		"one device": row(1), "seven devices": row(7), "eight devices": row(8),
		"39 ports": crowd(9, 39), "40 ports": crowd(9, 40),
		"47 domains": crowd(47, 5), "48 domains": crowd(48, 5), "all there may be": crowd(48, 40),
	}
}

func TestNetsOfTheTestsMayBe(t *testing.T) {
	for what, n := range goods() {
		if !names.Right(n) {
			t.Errorf("%s may not be", what)
		}
	}
}

// fault is a change of the whole net, that may not be with it.
type fault struct {
	what string
	turn func(n *api.Net)
}

// faults break what the parts of a net must be, each a rule of chapter 15.
func faults() []fault {
	l := []fault{
		{"nine devices", func(n *api.Net) { n.Devices = append(n.Devices, make([]api.Device, 5)...) }},
		{"a port of no device", func(n *api.Net) { n.Ports[6].Dev = 4 }},
		{"a port of the device -1", func(n *api.Net) { n.Ports[0].Dev = -1 }},
		{"a native VLAN below 0", func(n *api.Net) { n.Ports[0].Native = -1 }},
		{"a native VLAN above 4094", func(n *api.Net) { n.Ports[0].Native = 4095 }},
		{"a port without a VLAN", func(n *api.Net) { n.Ports[0].Native = 0 }},
		{"a VLAN without a domain", func(n *api.Net) { n.Ports[0].Native = 11 }},
		{"VLANs that fall", func(n *api.Net) { n.Ports[1].Tagged = []int{30, 10} }},
		{"a VLAN both native and tagged", func(n *api.Net) { n.Ports[1].Tagged = []int{10, 20} }},
		{"a port of no link", func(n *api.Net) { n.Ports[0].Link = 2 }},
		{"a port of another one's link", func(n *api.Net) { n.Ports[0].Link = 1 }},
		{"a link of no port", func(n *api.Net) { n.Links[1].A = 7 }},
		{"a link of a port without one", func(n *api.Net) { n.Ports[2].Link = -1 }},
		{"a domain of no device", func(n *api.Net) { n.Domains = append(n.Domains, api.Domain{Dev: 4, Vlan: 9, Irb: -1}) }},
		{"a domain of VLAN 0", func(n *api.Net) { n.Domains = append(n.Domains, api.Domain{Irb: -1}) }},
		{"a domain twice", func(n *api.Net) { n.Domains = append(n.Domains, api.Domain{Dev: 3, Vlan: 10, Irb: -1}) }},
		{"a VNI above its end", func(n *api.Net) { n.Domains[6].Vni = 1 << 24 }},
		{"a domain of no interface", func(n *api.Net) { n.Domains[1].Irb = 4 }},
		{"a domain of another one's interface", func(n *api.Net) { n.Domains[1].Irb = 0 }},
		{"a peer that is no domain", func(n *api.Net) { n.Domains[2].Peers[0] = 9 }},
		{"a peer that does not have it", func(n *api.Net) { n.Domains[4].Peers = nil }},
		{"a peer twice", func(n *api.Net) { n.Domains[2].Peers = []int{4, 4} }},
		{"peers of unlike VNIs", func(n *api.Net) { n.Domains[2].Vni = 5031 }},
		{"a peer without a VTEP", func(n *api.Net) { n.Devices[1].Vtep = 0 }},
		{"a static entry of no domain", func(n *api.Net) { n.Statics[0].Domain = 9 }},
		{"a static entry of no port", func(n *api.Net) { n.Statics[0].Port = -1 }},
		{"a static entry of a port without the VLAN", func(n *api.Net) { n.Statics[1].Port = 0 }},
		{"a flood list of no device", func(n *api.Net) { n.Floods[1].Dev = 4 }},
		{"a flood list of 17", func(n *api.Net) { n.Floods[1].Addrs = make([]uint32, 17) }},
		{"a VRF of no device", func(n *api.Net) { n.Vrfs[0].Dev = -1 }},
		{"imports that fall", func(n *api.Net) { n.Vrfs[0].Imports = []int{2, 1} }},
		{"an export of 0", func(n *api.Net) { n.Vrfs[3].Exports = []int{0} }},
		{"an interface of no domain", func(n *api.Net) { n.Irbs[3].Domain = 9 }},
		{"an interface of no VRF", func(n *api.Net) { n.Irbs[3].Vrf = 4 }},
		{"an interface of another device's VRF", func(n *api.Net) { n.Irbs[3].Vrf = 0 }},
		{"an interface of 31 bits", func(n *api.Net) { n.Irbs[3].Net.Bits = 31 }},
	}
	return append(l,
		fault{"41 ports", func(n *api.Net) { *n = crowd(9, 41) }},
		fault{"49 domains", func(n *api.Net) { *n = crowd(49, 5) }},
		fault{"21 links", func(n *api.Net) { n.Links = append(n.Links, make([]api.Link, 19)...) }},
		fault{"65 static entries", func(n *api.Net) { n.Statics = slices.Repeat(n.Statics[:1], 65) }},
		fault{"49 flood lists", func(n *api.Net) { n.Floods = slices.Repeat(n.Floods[:1], 49) }},
		fault{"17 VRFs", func(n *api.Net) { n.Vrfs = append(n.Vrfs, make([]api.Vrf, 13)...) }},
		fault{"49 interfaces", func(n *api.Net) { n.Irbs = append(n.Irbs, make([]api.Irb, 45)...) }},
	)
}

// said is what the chapter says of a call for a line of a kind.
func said(n api.Net, l api.Line, kind int) (api.Net, api.Errno) {
	switch {
	case !names.Right(n) || !stmt.Right(l) || l.Kind != kind:
		return api.Net{}, arg
	case kind == 1:
		return saidDevice(n, l)
	}
	return saidPort(n, l)
}

func saidDevice(n api.Net, l api.Line) (api.Net, api.Errno) {
	for _, d := range n.Devices {
		if d.Name == l.Dev || d.Mac == l.Mac {
			return api.Net{}, twice
		}
	}
	if len(n.Devices) == mostDevices {
		return api.Net{}, big
	}
	var d api.Device
	d.Row, d.Priority, d.Name, d.Mac = l.Row, l.Num, l.Dev, l.Mac
	out := clone(n, 0)
	out.Devices = append(out.Devices, d)
	return out, ok
}

func saidPort(n api.Net, l api.Line) (api.Net, api.Errno) {
	dev := slices.IndexFunc(n.Devices, func(d api.Device) bool { return d.Name == l.Dev })
	if dev < 0 {
		return api.Net{}, name
	}
	for _, p := range n.Ports {
		if p.Dev == dev && p.Name == l.Port {
			return api.Net{}, twice
		}
	}
	var p api.Port
	p.Row, p.Dev, p.Name, p.Native, p.Cost, p.Tagged, p.Link = l.Row, dev, l.Port, l.Vlan, l.Cost, l.Tagged, -1
	known := map[[2]int]bool{{dev, 0}: true}
	for _, d := range n.Domains {
		known[[2]int{d.Dev, d.Vlan}] = true
	}
	out := clone(n, 0)
	out.Ports = append(out.Ports, p)
	for _, vlan := range append([]int{l.Vlan}, l.Tagged...) {
		if !known[[2]int{dev, vlan}] {
			out.Domains = append(out.Domains, api.Domain{Dev: dev, Vlan: vlan, Irb: -1})
		}
	}
	if len(out.Ports) > mostPorts || len(out.Domains) > mostDomains {
		return api.Net{}, big
	}
	return out, ok
}

// isPut asks that a line is put, and what net is told.
func isPut(t *testing.T, what string, call put, n api.Net, l api.Line, want api.Net) api.Net {
	t.Helper()
	got, e := call(n, l)
	if e != ok {
		t.Fatalf("%s: %+v is refused with %d", what, l, e)
	}
	if !equal(got, want) {
		t.Fatalf("%s: of %+v the net told is\n%.2000v, not\n%.2000v", what, l, got, want)
	}
	if !names.Right(got) {
		t.Fatalf("%s: of %+v the net told may not be: %.2000v", what, l, got)
	}
	return got
}

// isRefused asks that a line is refused, and that no net is told with the error.
func isRefused(t *testing.T, what string, call put, n api.Net, l api.Line, want api.Errno) {
	t.Helper()
	got, e := call(n, l)
	if e != want {
		t.Fatalf("%s: of %+v the error is %d, not %d", what, l, e, want)
	}
	if !equal(got, api.Net{}) {
		t.Fatalf("%s: of %+v a net is told beside the error %d: %.2000v", what, l, e, got)
	}
}

// isSaid asks that of a net and a line both calls tell what the chapter says.
func isSaid(t *testing.T, what string, n api.Net, l api.Line) {
	t.Helper()
	for kind, call := range map[int]put{1: ports.Device, 2: ports.Port} {
		if want, e := said(n, l, kind); e != ok {
			isRefused(t, what, call, n, l, e)
		} else {
			isPut(t, what, call, n, l, want)
		}
	}
}

// lists are all lists of a net or a line, and those of their items.
func lists(v reflect.Value) []reflect.Value {
	var l []reflect.Value
	switch v.Kind() {
	case reflect.Struct:
		for i := range v.NumField() {
			l = append(l, lists(v.Field(i))...)
		}
	case reflect.Slice:
		l = append(l, v)
		for i := range v.Len() {
			l = append(l, lists(v.Index(i))...)
		}
	}
	return l
}

// room is all that lies in a list's memory, behind its end too.
func room(l reflect.Value) reflect.Value { return l.Slice(0, l.Cap()) }

// spoil writes into all lists of a net or a line, and behind their ends, from within outwards.
func spoil(pointer any) {
	all := lists(reflect.ValueOf(pointer).Elem())
	for _, l := range slices.Backward(all) {
		for i := range l.Cap() {
			fill(room(l).Index(i))
		}
	}
}

// fill writes something everywhere.
func fill(v reflect.Value) {
	switch v.Kind() {
	case reflect.Struct:
		for i := range v.NumField() {
			fill(v.Field(i))
		}
	case reflect.Slice:
		v.Set(reflect.MakeSlice(v.Type(), 2, 3))
		for i := range 2 {
			fill(v.Index(i))
		}
	case reflect.String:
		v.SetString("junk")
	default:
		v.Set(reflect.ValueOf(77).Convert(v.Type()))
	}
}

// clone is a net, or a line, of memory of its own, whose lists have so much spare room, in which something stands.
func clone[T any](one T, spare int) T {
	return cloneOf(reflect.ValueOf(one), spare).Interface().(T)
}

func cloneOf(v reflect.Value, spare int) reflect.Value {
	out := reflect.New(v.Type()).Elem()
	out.Set(v)
	switch v.Kind() {
	case reflect.Struct:
		for i := range v.NumField() {
			out.Field(i).Set(cloneOf(v.Field(i), spare))
		}
	case reflect.Slice:
		all := reflect.MakeSlice(v.Type(), v.Len()+spare, v.Len()+spare)
		for i := range all.Len() {
			if i < v.Len() {
				all.Index(i).Set(cloneOf(v.Index(i), spare))
			} else {
				fill(all.Index(i))
			}
		}
		out.Set(all.Slice(0, v.Len()))
	}
	return out
}

// rooms is a net, or a line, of memory of its own, whose lists have all that stood in the memory of the one's, behind their ends too.
func rooms[T any](one T) T {
	return roomsOf(reflect.ValueOf(one)).Interface().(T)
}

func roomsOf(v reflect.Value) reflect.Value {
	out := reflect.New(v.Type()).Elem()
	out.Set(v)
	switch v.Kind() {
	case reflect.Struct:
		for i := range v.NumField() {
			out.Field(i).Set(roomsOf(v.Field(i)))
		}
	case reflect.Slice:
		all := reflect.MakeSlice(v.Type(), v.Cap(), v.Cap())
		for i := range v.Cap() {
			all.Index(i).Set(roomsOf(room(v).Index(i)))
		}
		out.Set(all)
	}
	return out
}

// equal tells whether two nets, or two lines, are alike in all; nil and empty lists are.
func equal[T any](a, b T) bool { return reflect.DeepEqual(clone(a, 0), clone(b, 0)) }

// draws is a row of numbers made from a seed.
func draws(seed uint64) func(below int) int {
	return func(below int) int {
		seed = seed*6364136223846793005 + 1442695040888963407
		return int(seed>>33) % below
	}
}
