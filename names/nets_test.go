package names_test

import (
	"maps"
	"math"
	"reflect"
	"slices"
	"strconv"
	"testing"

	"paling/api"
	"paling/names"
)

const (
	mostDevices = 8
	mostPorts   = 40
	mostLinks   = 20
	mostDomains = 48
	mostStatics = 64
	mostFloods  = 48
	mostVrfs    = 16
	mostIrbs    = 48
	mostList    = 16
	mostVlan    = 4094
	mostVni     = 16777215
	mostTarget  = 65535
	mostBits    = 30
)

// Ends of a type's numbers.
const (
	least = math.MinInt
	most  = math.MaxInt
)

// example is the net of the chapter's example.
func example() api.Net {
	return api.Net{
		Devices: []api.Device{{Name: "a"}},
		Ports:   []api.Port{{Dev: 0, Name: "p", Native: 10, Link: -1}},
		Domains: []api.Domain{{Dev: 0, Vlan: 10, Irb: -1}},
	}
}

// whole is a net that has all there is: three devices, links with access ports and with trunks, a mesh of three and one of two, static entries, flood lists, VRFs and interfaces.
func whole() api.Net {
	return api.Net{
		Devices: []api.Device{
			{Row: 1, Priority: 4096, Name: "a", Mac: 1, Vtep: 0x0a000001},
			{Row: 2, Priority: 8192, Name: "b", Mac: 2, Vtep: 0x0a000002},
			{Row: 3, Name: "c", Mac: 3, Vtep: 0x0a000003},
			{Row: 4, Name: "d"},
		},
		Ports: []api.Port{
			{Row: 5, Dev: 0, Native: 10, Cost: 4, Link: -1, Name: "p1"},
			{Row: 6, Dev: 0, Native: 20, Cost: 5, Link: 0, Name: "p2", Tagged: []int{10, 30}},
			{Row: 7, Dev: 1, Cost: 6, Link: 0, Name: "p1", Tagged: []int{10, 30}},
			{Row: 8, Dev: 1, Native: 30, Cost: 7, Link: 1, Name: "p2"},
			{Row: 9, Dev: 2, Native: 40, Cost: 8, Link: 1, Name: "p1"},
			{Row: 10, Dev: 2, Native: 4094, Cost: 9, Link: -1, Name: "p2", Tagged: []int{1, 40}},
			{Row: 11, Dev: 3, Native: 10, Cost: 10, Link: -1, Name: "p1"},
		},
		Links: []api.Link{{Row: 12, A: 1, B: 2}, {Row: 13, A: 4, B: 3}},
		Domains: []api.Domain{
			{Dev: 0, Vlan: 10, Vni: 5010, Irb: 0, Row: 14, Peers: []int{8, 3}},
			{Dev: 0, Vlan: 20, Irb: -1},
			{Dev: 0, Vlan: 30, Vni: 5030, Irb: 2, Row: 15, Peers: []int{4}},
			{Dev: 1, Vlan: 10, Vni: 5010, Irb: -1, Row: 16, Peers: []int{0, 8}},
			{Dev: 1, Vlan: 30, Vni: 5030, Irb: 1, Row: 17, Peers: []int{2}},
			{Dev: 2, Vlan: 1, Irb: -1},
			{Dev: 2, Vlan: 4094, Vni: 7, Irb: -1, Row: 18},
			{Dev: 3, Vlan: 10, Irb: 3},
			{Dev: 2, Vlan: 40, Vni: 5010, Irb: -1, Row: 19, Peers: []int{3, 0}},
		},
		Statics: []api.Static{
			{Row: 20, Domain: 0, Port: 1, Mac: 7},
			{Row: 21, Domain: 1, Port: 1, Mac: 8},
			{Row: 22, Domain: 6, Port: 5, Mac: 9},
			{Row: 23, Domain: 7, Port: 6},
		},
		Floods: []api.Flood{
			{Row: 24, Dev: 0, Vni: 5010, Addrs: []uint32{2, 3}},
			{Row: 25, Dev: 3, Vni: 9},
		},
		Vrfs: []api.Vrf{
			{Row: 26, Dev: 0, Name: "red", Imports: []int{1, 2}, Exports: []int{1, 65535}},
			{Row: 27, Dev: 1, Name: "red", Imports: []int{7}},
			{Row: 28, Dev: 0, Name: "blue", Exports: []int{9}},
			{Row: 29, Dev: 3, Name: "blue"},
		},
		Irbs: []api.Irb{
			{Row: 30, Domain: 0, Vrf: 2, Net: api.Prefix{Addr: 0x0a000001, Bits: 24}},
			{Row: 31, Domain: 4, Vrf: 1, Net: api.Prefix{Addr: 0x0a000101, Bits: 30}},
			{Row: 32, Domain: 2, Vrf: 0, Net: api.Prefix{Addr: 0x0a000201, Bits: 1}},
			{Row: 33, Domain: 7, Vrf: 3, Net: api.Prefix{Addr: 0x0a000301, Bits: 16}},
		},
	}
}

// full is a net that has as many of each list as may be: six domains on each of eight devices, each of which is a peer of all domains of the others.
func full() api.Net {
	var n api.Net
	vlans := []int{1, 2, 10, 1000, 4093, 4094}
	name := func(i int) string { return "n" + strconv.Itoa(i) }
	for d := range mostDevices {
		n.Devices = append(n.Devices, api.Device{Row: d + 1, Name: name(d), Mac: uint64(d + 1), Vtep: uint32(d + 1)})
		for i, vlan := range vlans {
			n.Domains = append(n.Domains, api.Domain{Dev: d, Vlan: vlan, Vni: mostVni, Irb: 6*d + i})
			n.Irbs = append(n.Irbs, api.Irb{Domain: 6*d + i, Vrf: 2*d + i%2, Net: api.Prefix{Addr: uint32(6*d + i), Bits: 1 + (6*d+i)%mostBits}})
			n.Floods = append(n.Floods, api.Flood{Dev: d, Vni: i, Addrs: slices.Repeat([]uint32{7}, mostList)})
		}
		for i := range 5 {
			tagged := slices.Delete(slices.Clone(vlans), i, i+1)
			n.Ports = append(n.Ports, api.Port{Dev: d, Native: vlans[i], Link: d/2*5 + i, Name: name(i), Tagged: tagged})
		}
		for i := range 2 {
			n.Vrfs = append(n.Vrfs, api.Vrf{Dev: d, Name: name(i), Imports: targets(), Exports: targets()})
		}
	}
	for i := range mostLinks {
		n.Links = append(n.Links, api.Link{A: i/5*10 + i%5, B: i/5*10 + 5 + i%5})
	}
	for i := range n.Domains {
		for j := range n.Domains {
			if i/6 != j/6 {
				n.Domains[i].Peers = append(n.Domains[i].Peers, j)
			}
		}
	}
	for i := range mostStatics {
		n.Statics = append(n.Statics, api.Static{Domain: i % mostDomains, Port: i % mostDomains / 6 * 5, Mac: uint64(i)})
	}
	return n
}

// targets are as many numbers as Imports and Exports may have, from the least to the greatest.
func targets() []int { return append(counted(mostList-1), mostTarget) }

// counted are the numbers from 1 to n.
func counted(n int) []int {
	var l []int
	for i := range n {
		l = append(l, i+1)
	}
	return l
}

// wide is a net of one device whose ports have as many VLANs as may be.
func wide() api.Net {
	n := api.Net{Devices: []api.Device{{Name: "a"}}}
	for vlan := range mostList + 1 {
		n.Domains = append(n.Domains, api.Domain{Vlan: vlan + 1, Irb: -1})
	}
	n.Ports = []api.Port{
		{Name: "p", Tagged: counted(mostList), Link: -1},
		{Name: "q", Native: mostList + 1, Tagged: counted(mostList), Link: -1},
		{Name: "p", Native: 1, Link: -1},
	}
	return n
}

// twins is a net of things of one name: the ones of each name lie on each device, and twice there.
func twins() api.Net {
	var n api.Net
	for d := range 4 {
		n.Devices = append(n.Devices, api.Device{Name: []string{"a", "b"}[d%2]})
		n.Domains = append(n.Domains, api.Domain{Dev: 3 - d, Vlan: 10, Irb: -1}, api.Domain{Dev: 3 - d, Vlan: 20, Irb: -1})
	}
	for i := range 16 {
		n.Ports = append(n.Ports, api.Port{Dev: i * 3 % 4, Native: 10, Link: -1, Name: []string{"p", "q"}[i/4%2]})
		n.Vrfs = append(n.Vrfs, api.Vrf{Dev: i * 3 % 4, Name: []string{"q", "r"}[i/4%2]})
	}
	return n
}

// goods are nets that may be.
func goods() map[string]api.Net {
	bare := api.Net{Devices: []api.Device{{}, {}}}
	empty := whole()
	empty.Devices, empty.Ports, empty.Links, empty.Domains = empty.Devices[:0], empty.Ports[:0], []api.Link{}, empty.Domains[:0]
	empty.Statics, empty.Floods, empty.Vrfs, empty.Irbs = empty.Statics[:0], empty.Floods[:0], empty.Vrfs[:0], []api.Irb{}
	return map[string]api.Net{
		"nothing": {}, "empty lists": empty, "the example": example(), "devices alone": bare,
		"the whole": whole(), "the full": full(), "the wide": wide(), "twins": twins(),
	}
}

// said tells which of the chapter's rules a net breaks.
func said(n api.Net) []string {
	broken := map[string]bool{}
	holds := func(what string, ok bool) bool {
		if !ok {
			broken[what] = true
		}
		return ok
	}
	dev := func(d int) bool { return holds("Dev", d >= 0 && d < len(n.Devices)) }
	saidCounts(n, holds)
	saidPorts(n, dev, holds)
	saidLinks(n, holds)
	saidDomains(n, dev, holds)
	for _, s := range n.Statics {
		domain := holds("Static's Domain", s.Domain >= 0 && s.Domain < len(n.Domains))
		port := holds("Static's Port", s.Port >= 0 && s.Port < len(n.Ports))
		if domain && port {
			holds("Static's Dev", n.Ports[s.Port].Dev == n.Domains[s.Domain].Dev)
			holds("Static's Vlan", vlans(n.Ports[s.Port])[n.Domains[s.Domain].Vlan] > 0)
		}
	}
	for _, f := range n.Floods {
		dev(f.Dev)
		holds("Addrs", len(f.Addrs) < 17)
	}
	for _, v := range n.Vrfs {
		dev(v.Dev)
		holds("Imports", saidRising(v.Imports, mostTarget))
		holds("Exports", saidRising(v.Exports, mostTarget))
	}
	for i, r := range n.Irbs {
		holds("Bits", r.Net.Bits >= 1 && r.Net.Bits <= 30)
		domain := holds("Irb's Domain", r.Domain >= 0 && r.Domain < len(n.Domains))
		vrf := holds("Irb's Vrf", r.Vrf >= 0 && r.Vrf < len(n.Vrfs))
		if domain {
			holds("Domain's Irb", n.Domains[r.Domain].Irb == i)
		}
		if domain && vrf {
			holds("Irb's Dev", n.Domains[r.Domain].Dev == n.Vrfs[r.Vrf].Dev)
		}
	}
	return slices.Sorted(maps.Keys(broken))
}

func saidCounts(n api.Net, holds func(what string, ok bool) bool) {
	holds("Devices", len(n.Devices) <= 8)
	holds("Ports", len(n.Ports) <= 40)
	holds("Links", len(n.Links) <= 20)
	holds("Domains", len(n.Domains) <= 48)
	holds("Statics", len(n.Statics) <= 64)
	holds("Floods", len(n.Floods) <= 48)
	holds("Vrfs", len(n.Vrfs) <= 16)
	holds("Irbs", len(n.Irbs) <= 48)
}

// vlans counts how often a port has each VLAN, without VLAN 0.
func vlans(p api.Port) map[int]int {
	m := map[int]int{}
	for _, vlan := range append(slices.Clone(p.Tagged), p.Native) {
		if vlan != 0 {
			m[vlan]++
		}
	}
	return m
}

// saidRising tells whether a list is none, or up to 16 numbers that rise from 1 on.
func saidRising(l []int, most int) bool {
	ahead := 0
	for _, n := range l {
		if n <= ahead || n > most {
			return false
		}
		ahead = n
	}
	return len(l) <= 16
}

func saidPorts(n api.Net, dev func(d int) bool, holds func(what string, ok bool) bool) {
	known := map[[2]int]bool{}
	for _, d := range n.Domains {
		known[[2]int{d.Dev, d.Vlan}] = true
	}
	for i, p := range n.Ports {
		dev(p.Dev)
		holds("Native", p.Native >= 0 && p.Native < 4095)
		holds("Tagged", saidRising(p.Tagged, mostVlan))
		holds("one of both", p.Native != 0 || len(p.Tagged) > 0)
		if p.Native != 0 {
			holds("Tagged has Native", !slices.Contains(p.Tagged, p.Native))
		}
		if p.Link != -1 && holds("Port's Link", p.Link >= 0 && p.Link < len(n.Links)) {
			holds("Link's Port", n.Links[p.Link].A == i || n.Links[p.Link].B == i)
		}
		for vlan := range vlans(p) {
			holds("Port's Domain", known[[2]int{p.Dev, vlan}])
		}
	}
}

func saidLinks(n api.Net, holds func(what string, ok bool) bool) {
	for i, l := range n.Links {
		a := holds("A", l.A >= 0 && l.A < len(n.Ports))
		b := holds("B", l.B >= 0 && l.B < len(n.Ports))
		if a {
			holds("A's Link", n.Ports[l.A].Link == i)
		}
		if b {
			holds("B's Link", n.Ports[l.B].Link == i)
		}
		if a && b {
			holds("Link's Devs", n.Ports[l.A].Dev != n.Ports[l.B].Dev)
		}
	}
}

func saidDomains(n api.Net, dev func(d int) bool, holds func(what string, ok bool) bool) {
	vtep := func(d int) bool { return d < 0 || d >= len(n.Devices) || n.Devices[d].Vtep > 0 }
	for i, d := range n.Domains {
		dev(d.Dev)
		holds("Vlan", d.Vlan >= 1 && d.Vlan < 4095)
		holds("Vni", d.Vni >= 0 && d.Vni < 1<<24)
		if d.Irb != -1 && holds("Irb", d.Irb >= 0 && d.Irb < len(n.Irbs)) {
			holds("Irb's own", n.Irbs[d.Irb].Domain == i)
		}
		for j, other := range n.Domains {
			holds("Dev and Vlan", i == j || d.Dev != other.Dev || d.Vlan != other.Vlan)
		}
		for j, peer := range d.Peers {
			holds("Peer twice", slices.Index(d.Peers, peer) == j)
			if !holds("Peer", peer >= 0 && peer < len(n.Domains) && peer != i) {
				continue
			}
			p := n.Domains[peer]
			holds("Peer's Dev", p.Dev != d.Dev)
			holds("Vtep", vtep(d.Dev))
			holds("Peer's Vtep", vtep(p.Dev))
			holds("Peer's Vni", p.Vni == d.Vni)
			holds("Vni 0", p.Vni != 0 && d.Vni != 0)
			holds("Peer's Peers", slices.Contains(p.Peers, i))
		}
	}
}

// isRight asks whether a net may be, and of one that may not be that nothing of it is found.
func isRight(t *testing.T, what string, n api.Net, want bool) {
	t.Helper()
	if got := names.Right(n); got != want {
		t.Fatalf("%s: Right is %v; it breaks %v", what, got, said(n))
	}
	if !want {
		isClosed(t, what, n)
	}
}

// rightHeld holds Right against the chapter's words, and tells what it is.
func rightHeld(t *testing.T, what string, n api.Net) bool {
	t.Helper()
	want := len(said(n)) == 0
	isRight(t, what, n, want)
	return want
}

// isClosed asks that nothing is found in a net that may not be.
func isClosed(t *testing.T, what string, n api.Net) {
	t.Helper()
	for _, d := range n.Devices {
		isPlace(t, what+": Device "+d.Name, names.Device(n, d.Name), -1)
	}
	for _, p := range n.Ports {
		isPlace(t, what+": Port "+p.Name, names.Port(n, p.Dev, p.Name), -1)
	}
	for i, d := range n.Domains {
		isPlace(t, what+": Domain "+strconv.Itoa(d.Vlan), names.Domain(n, d.Dev, d.Vlan), -1)
		if l := names.Members(n, i); cap(l) > 0 {
			t.Fatalf("%s: Members of %d: %v", what, i, l)
		}
	}
	for _, v := range n.Vrfs {
		isPlace(t, what+": Vrf "+v.Name, names.Vrf(n, v.Dev, v.Name), -1)
	}
	isPlace(t, what+": no Device", names.Device(n, "none"), -1)
}

func isPlace(t *testing.T, what string, got, want int) {
	t.Helper()
	if got != want {
		t.Fatalf("%s: %d, not %d", what, got, want)
	}
}

// leaf is a number or a name of a net, and where it stands.
type leaf struct {
	path  string
	value reflect.Value
}

// leaves are all numbers and names of a net.
func leaves(n *api.Net) []leaf { return leavesOf("", reflect.ValueOf(n).Elem()) }

func leavesOf(path string, v reflect.Value) []leaf {
	var l []leaf
	switch v.Kind() {
	case reflect.Struct:
		for i := range v.NumField() {
			l = append(l, leavesOf(path+"."+v.Type().Field(i).Name, v.Field(i))...)
		}
	case reflect.Slice:
		for i := range v.Len() {
			l = append(l, leavesOf(path+"["+strconv.Itoa(i)+"]", v.Index(i))...)
		}
	default:
		l = append(l, leaf{path, v})
	}
	return l
}

// turn makes what stands somewhere another one.
func (l leaf) turn() {
	switch {
	case l.value.CanInt():
		l.value.SetInt(l.value.Int() + 1)
	case l.value.CanUint():
		l.value.SetUint(l.value.Uint() + 1)
	default:
		l.value.SetString(l.value.String() + "x")
	}
}

// lists are all lists of a net, and those of their items.
func lists(n *api.Net) []leaf { return listsOf("", reflect.ValueOf(n).Elem()) }

func listsOf(path string, v reflect.Value) []leaf {
	var l []leaf
	switch v.Kind() {
	case reflect.Struct:
		for i := range v.NumField() {
			l = append(l, listsOf(path+"."+v.Type().Field(i).Name, v.Field(i))...)
		}
	case reflect.Slice:
		l = append(l, leaf{path, v})
		for i := range v.Len() {
			l = append(l, listsOf(path+"["+strconv.Itoa(i)+"]", v.Index(i))...)
		}
	}
	return l
}

// clone is a net of memory of its own, whose lists have so much spare room, in which something stands.
func clone(n api.Net, spare int) api.Net {
	return cloneOf(reflect.ValueOf(n), spare).Interface().(api.Net)
}

func cloneOf(v reflect.Value, spare int) reflect.Value {
	out := reflect.New(v.Type()).Elem()
	out.Set(v)
	switch v.Kind() {
	case reflect.Struct:
		for i := range v.NumField() {
			out.Field(i).Set(cloneOf(v.Field(i), spare))
		}
	case reflect.Slice:
		room := reflect.MakeSlice(v.Type(), v.Len()+spare, v.Len()+spare)
		for i := range room.Len() {
			if i < v.Len() {
				room.Index(i).Set(cloneOf(v.Index(i), spare))
			} else {
				fill(room.Index(i))
			}
		}
		out.Set(room.Slice(0, v.Len()))
	}
	return out
}

// fill writes something everywhere.
func fill(v reflect.Value) {
	switch v.Kind() {
	case reflect.Struct:
		for i := range v.NumField() {
			fill(v.Field(i))
		}
	case reflect.Slice:
		v.Set(reflect.MakeSlice(v.Type(), 2, 3))
		for i := range 2 {
			fill(v.Index(i))
		}
	case reflect.String:
		v.SetString("junk")
	default:
		v.Set(reflect.ValueOf(77).Convert(v.Type()))
	}
}

// rooms is a net of memory of its own, whose lists have all that stood in the memory of n's, behind their ends too.
func rooms(n api.Net) api.Net {
	return roomsOf(reflect.ValueOf(n)).Interface().(api.Net)
}

func roomsOf(v reflect.Value) reflect.Value {
	out := reflect.New(v.Type()).Elem()
	out.Set(v)
	switch v.Kind() {
	case reflect.Struct:
		for i := range v.NumField() {
			out.Field(i).Set(roomsOf(v.Field(i)))
		}
	case reflect.Slice:
		room := reflect.MakeSlice(v.Type(), v.Cap(), v.Cap())
		for i := range v.Cap() {
			room.Index(i).Set(roomsOf(v.Slice(0, v.Cap()).Index(i)))
		}
		out.Set(room)
	}
	return out
}

// equal tells whether two nets are alike in all; nil and empty lists are.
func equal(a, b api.Net) bool {
	return reflect.DeepEqual(clone(a, 0), clone(b, 0))
}

// draws is a row of numbers made from a seed.
func draws(seed uint64) func(below int) int {
	return func(below int) int {
		seed = seed*6364136223846793005 + 1442695040888963407
		return int(seed>>33) % below
	}
}
