package vrfs_test

import (
	"fmt"
	"reflect"
	"slices"
	"testing"
	"unsafe"

	"paling/api"
	"paling/names"
	"paling/vrfs"
)

// P20.5, and what holds everywhere

// made hands one each net that may be with lines that are put into it, and what is made of it.
func made(t *testing.T, one func(what string, n api.Net, l api.Line, want api.Net)) {
	t.Helper()
	all := goods()
	for seed := range 60 {
		n := drawn(draws(uint64(seed)))
		all[fmt.Sprint("the net ", seed)] = n
		all[fmt.Sprint("the net ", seed, " without VRFs")] = raw(n)
	}
	count := map[int]int{}
	for what, n := range all {
		draw := draws(7)
		lines := append(rights(), refusals()...)
		for range 40 {
			lines = append(lines, drawnLine(n, draw))
		}
		for _, l := range lines {
			if want, e := said(n, l, l.Kind); e == ok {
				one(fmt.Sprintf("%s with %+v", what, l), n, l, want)
				count[l.Kind]++
			}
		}
	}
	if count[kVrf] < 300 || count[kIrb] < 150 {
		t.Errorf("%d VRFs and %d interfaces are put", count[kVrf], count[kIrb])
	}
}

// put is the net that a line makes.
func put(n api.Net, l api.Line) api.Net {
	m, _ := puts()[l.Kind](n, l)
	return m
}

// The net that is told may be; each list is as it was, each record as it was, but for what the line puts behind all others, and the domain's interface.
func TestWhatWasThereStands(t *testing.T) {
	made(t, func(what string, n api.Net, l api.Line, want api.Net) {
		got := put(clone(n, 2), l)
		if !names.Right(got) {
			t.Fatalf("%s: the net told may not be: %.2000v", what, got)
		}
		if !equal(got, want) {
			t.Fatalf("%s: the net told is\n%.2000v, not\n%.2000v", what, got, want)
		}
		turned := 0
		if l.Kind == kVrf {
			got.Vrfs = got.Vrfs[:len(got.Vrfs)-1]
		} else {
			got.Irbs = got.Irbs[:len(got.Irbs)-1]
			for i := range got.Domains {
				if got.Domains[i].Irb == len(n.Irbs) && n.Domains[i].Irb == -1 {
					got.Domains[i].Irb = -1
					turned++
				}
			}
		}
		if turned != l.Kind-kVrf {
			t.Fatalf("%s: %d domains got an interface", what, turned)
		}
		from, to := reflect.ValueOf(clone(n, 0)), reflect.ValueOf(clone(got, 0))
		for i := range from.NumField() {
			if !reflect.DeepEqual(to.Field(i).Interface(), from.Field(i).Interface()) {
				t.Fatalf("%s: the %s are\n%.2000v, not\n%.2000v", what, from.Type().Field(i).Name, to.Field(i), from.Field(i))
			}
		}
	})
}

// What is put is there: a VRF by its name, which leaks into itself, and an interface to which its domain's router leads; each again is refused.
func TestWhatIsPutIsThere(t *testing.T) {
	made(t, func(what string, n api.Net, l api.Line, _ api.Net) {
		got := put(n, l)
		dev := names.Device(got, l.Dev)
		if l.Kind == kVrf {
			at := len(n.Vrfs)
			if names.Vrf(got, dev, l.Name) != at || names.Vrf(n, dev, l.Name) != -1 {
				t.Fatalf("%s: the VRF is not at the place %d", what, at)
			}
			leaks(t, what, n, at, at, false)
			leaks(t, what, got, at, at, true)
			refuses(t, what+", again", got, l, twice)
			return
		}
		domain := names.Domain(got, dev, l.Vlan)
		for at := range n.Domains {
			want := -1
			if i := n.Domains[at].Irb; i >= 0 && n.Irbs[i].Net.Addr == l.Addr {
				t.Fatalf("%s: the domain %d has the address already", what, at)
			}
			if at == domain {
				want = len(n.Irbs)
			}
			routes(t, what, n, at, host(l.Addr), -1)
			routes(t, what, got, at, host(l.Addr), want)
		}
		refuses(t, what+", again", got, l, faces)
	})
}

// What leaked leaks as it did, and what was routed is routed as it was, whatever is put behind.
func TestWhatLeakedLeaks(t *testing.T) {
	made(t, func(what string, n api.Net, l api.Line, _ api.Net) {
		got := put(n, l)
		for from := range n.Vrfs {
			for to := range n.Vrfs {
				leaks(t, what, got, from, to, vrfs.Leaks(n, from, to))
			}
		}
		for at, d := range n.Domains {
			if d.Irb >= 0 {
				routes(t, what, got, at, host(n.Irbs[d.Irb].Net.Addr), d.Irb)
			}
		}
	})
}

// Over many nets, built of lines: a domain has one interface, and one address of a router, at most; no two interfaces have one address, and none of two devices meet.
func TestADomainHasOneInterface(t *testing.T) {
	interfaces := 0
	for seed := range 300 {
		draw := draws(uint64(6000 + seed))
		n := raw(drawn(draw))
		for range 100 {
			l := drawnLine(n, draw)
			if m, e := puts()[l.Kind](n, l); e == ok {
				n = m
			}
		}
		has := map[int]int{}
		for i, one := range n.Irbs {
			interfaces++
			if _, there := has[one.Domain]; there || n.Domains[one.Domain].Irb != i || n.Vrfs[one.Vrf].Dev != n.Domains[one.Domain].Dev {
				t.Fatalf("seed %d: the interface %d of the domain %d", seed, i, one.Domain)
			}
			has[one.Domain] = i
			for at, other := range n.Irbs[:i] {
				far := n.Domains[one.Domain].Dev != n.Domains[other.Domain].Dev
				if one.Net.Addr == other.Net.Addr || far && (saidHas(one.Net, other.Net.Addr) || saidHas(other.Net, one.Net.Addr)) {
					t.Fatalf("seed %d: the interfaces %d and %d meet: %+v, %+v", seed, at, i, other, one)
				}
			}
		}
		for domain := range n.Domains {
			routers := 0
			for _, one := range n.Irbs {
				if i, there := vrfs.Router(n, domain, host(one.Net.Addr)); there {
					routers++
					if has[domain] != i {
						t.Fatalf("seed %d: the router of the domain %d is %d", seed, domain, i)
					}
				}
			}
			if i, there := has[domain]; there != (routers == 1) || routers > 1 || !there && n.Domains[domain].Irb != -1 {
				t.Fatalf("seed %d: the domain %d has %d routers, its interface is %d", seed, domain, routers, i)
			}
		}
	}
	if interfaces < 1000 {
		t.Errorf("%d interfaces", interfaces)
	}
}

// numbers are all numbers of a net that stand somewhere.
func numbers(v reflect.Value) []reflect.Value {
	var l []reflect.Value
	switch v.Kind() {
	case reflect.Struct:
		for i := range v.NumField() {
			l = append(l, numbers(v.Field(i))...)
		}
	case reflect.Slice:
		for i := range v.Len() {
			l = append(l, numbers(v.Index(i))...)
		}
	case reflect.Int, reflect.Uint32:
		l = append(l, v)
	}
	return l
}

// Nets with each number turned to some of each kind, the ends too: whether or not they may be then, each call tells what the chapter says.
func TestNetsOfAnyNumbers(t *testing.T) {
	n := whole()
	lines := append(rights(), refusals()...)
	right := 0
	for i, v := range numbers(reflect.ValueOf(&n).Elem()) {
		was := reflect.ValueOf(v.Interface())
		for _, to := range []int{least, -2, -1, 0, 1, 2, 3, 4, 5, 6, 7, 9, 10, 20, 24, 30, 31, 40, 4095, 65536, 0x0a000001, 0x0c000001, most} {
			v.Set(reflect.ValueOf(to).Convert(v.Type()))
			what := fmt.Sprint("the number ", i, " is ", to)
			for _, l := range lines {
				isSaid(t, what, l.Kind, n, l)
			}
			for _, from := range []int{-1, 0, 2, 4, 6} {
				for _, to := range []int{0, 2, 5} {
					leaks(t, what, n, from, to, saidLeaks(n, from, to))
				}
			}
			for domain := range n.Domains {
				isRouted(t, what, n, domain, host(0x0a000001))
				isRouted(t, what, n, domain, host(0x0a000301))
			}
			if names.Right(n) {
				right++
			}
		}
		v.Set(was)
	}
	if right < 300 {
		t.Errorf("%d nets may be", right)
	}
}

// What is handed in reads afterwards as it did, what lies behind the lists' ends too; the line too, and with an error too.
func TestWhatIsHandedInStays(t *testing.T) {
	asked := func(what string, n api.Net, l api.Line) {
		t.Helper()
		n, l = clone(n, 4), clone(l, 4)
		nets, line := rooms(n), rooms(l)
		for _, call := range puts() {
			call(n, l)
		}
		for _, place := range []int{-1, 0, 1, 2, 5, 16} {
			vrfs.Leaks(n, place, 1)
			vrfs.Leaks(n, 0, place)
			vrfs.Router(n, place, host(0x0a000001))
		}
		if !reflect.DeepEqual(rooms(n), nets) {
			t.Fatalf("%s: the net is changed", what)
		}
		if !reflect.DeepEqual(rooms(l), line) {
			t.Fatalf("%s: the line is changed", what)
		}
	}
	made(t, func(what string, n api.Net, l api.Line, _ api.Net) { asked(what, n, l) })
	wrong := []api.Line{vrf("", "red", by(1), by(2)), vrf("a", "green", by(2, 1), by(3, 1)), irb("a", 20, "red", 0, 24), {Kind: kVrf, Dev: "a", Name: "green", Imports: by(1), Exports: by(2), Tagged: by(3), Addrs: []uint32{4}}}
	for _, l := range slices.Concat(others(), refusals(), wrong) {
		for what, n := range goods() {
			asked(what, n, l)
		}
	}
	for _, f := range faults() {
		n := whole()
		f.turn(&n)
		asked(f.what, n, vrf("d", "red", by(1), by(2)))
		asked(f.what, n, irb("a", 20, "red", 0x0c000001, 24))
	}
}

// What is written into the net that is told, into its lists and behind their ends, changes nothing of what was handed in, nor of another net that was told; and the other way round.
func TestWhatIsToldIsNew(t *testing.T) {
	made(t, func(what string, start api.Net, line api.Line, want api.Net) {
		n, l := clone(start, 3), clone(line, 3)
		wasNet, wasLine := rooms(n), rooms(l)
		got, again := put(n, l), put(n, l)
		spoil(&got)
		if !reflect.DeepEqual(rooms(n), wasNet) {
			t.Fatalf("%s: what is written into the net told is in the one handed in", what)
		}
		if !reflect.DeepEqual(rooms(l), wasLine) {
			t.Fatalf("%s: what is written into the net told is in the line", what)
		}
		if !equal(again, want) {
			t.Fatalf("%s: two nets told share memory", what)
		}
		spoil(&n)
		spoil(&l)
		if !equal(again, want) {
			t.Fatalf("%s: what is written into what was handed in is in the net told", what)
		}
		if !equal(put(clone(start, 0), clone(line, 0)), want) {
			t.Fatalf("%s: another net is told once more", what)
		}
	})
}

// A net that is told is no part of the next one, however much room there is behind its lists: two VRFs, or interfaces, that are put into one net do not meet.
func TestNetsThatGoOnFromOne(t *testing.T) {
	n := row(2)
	for i := range mostVrfs {
		a := makesVrf(t, "one", n, vrf("sw1", "x", by(1), by(2)), 0)
		b := makesVrf(t, "another one", n, vrf("sw2", "y", by(3), by(4)), 1)
		if a.Vrfs[i].Name != "x" || b.Vrfs[i].Name != "y" || a.Vrfs[i].Imports[0] != 1 || b.Vrfs[i].Exports[0] != 4 || len(n.Vrfs) != i {
			t.Fatalf("two VRFs put into one net meet: %+v, %+v", a.Vrfs[i], b.Vrfs[i])
		}
		n = makesVrf(t, "a VRF", n, vrf(n.Devices[i%2].Name, "r"+fmt.Sprint(i), by(i+1), nil), i%2)
	}
	n = laid(8, 6)
	for i := range 46 {
		dev := i % 8
		a := makesIrb(t, "one", n, irb("sw8", 6, "red", 1, 24), 47, 7)
		b := makesIrb(t, "another one", n, irb("sw7", 6, "red", 2, 24), 41, 6)
		if a.Irbs[i].Domain != 47 || b.Irbs[i].Domain != 41 || a.Domains[41].Irb != -1 || b.Domains[47].Irb != -1 || len(n.Irbs) != i {
			t.Fatalf("two interfaces put into one net meet: %+v, %+v", a.Irbs[i], b.Irbs[i])
		}
		n = makesIrb(t, "an interface", n, irb(n.Devices[dev].Name, i/8+1, "red", 0x0a000001+uint32(i)<<8, 24), 6*dev+i/8, dev)
	}
}

// No two lists of a net that is told share memory, spare room neither, though those handed in do; nor do a line's Imports and Exports.
func TestListsToldAreApart(t *testing.T) {
	shared := by(1, 2, 3, 4, 5, 6)
	n := row(3)
	for dev := range n.Devices {
		for _, vlan := range shared {
			n.Domains = append(n.Domains, api.Domain{Dev: dev, Vlan: vlan, Irb: -1, Peers: shared[:0]})
		}
		n.Ports = append(n.Ports, api.Port{Dev: dev, Link: -1, Tagged: shared[:3]})
		n.Vrfs = append(n.Vrfs, api.Vrf{Dev: dev, Name: "red", Imports: shared[:4], Exports: shared[:4]})
	}
	n.Vrfs = append(n.Vrfs, api.Vrf{Name: "blue", Imports: shared, Exports: shared[1:5]})
	addrs := []uint32{1, 2}
	n.Floods = []api.Flood{{Addrs: addrs[:1]}, {Addrs: addrs}, {Addrs: addrs[:0]}}
	for _, l := range []api.Line{vrf("sw1", "green", shared[:3], shared[:3]), vrf("sw1", "green", shared[:2], shared[2:]), vrf("sw3", "green", nil, shared[3:]), irb("sw2", 4, "red", 0x0a000001, 24)} {
		want := clone(put(n, l), 0)
		count := 0
		for at, list := range lists(reflect.ValueOf(&want).Elem()) {
			if kind := list.Type().Elem().Kind(); kind != reflect.Int && kind != reflect.Uint32 {
				continue
			}
			one := put(n, l)
			told := lists(reflect.ValueOf(&one).Elem())[at]
			for i := range told.Cap() {
				fill(room(told).Index(i))
			}
			// Only this one is another one now.
			told.Set(list)
			if !equal(one, want) {
				t.Fatalf("%+v: the list %d shares memory with another one", l, at)
			}
			count++
		}
		if count < 30 {
			t.Errorf("%+v: %d lists", l, count)
		}
	}
	if !slices.Equal(shared, by(1, 2, 3, 4, 5, 6)) || addrs[0] != 1 || addrs[1] != 2 {
		t.Fatal("what was handed in is written into")
	}
}

// Nothing of what lies behind the ends of what was handed in is handed out, behind an end neither.
func TestNothingIsToldFromBehindEnds(t *testing.T) {
	made(t, func(what string, n api.Net, l api.Line, _ api.Net) {
		got := put(clone(n, 3), clone(l, 3))
		for at, list := range lists(reflect.ValueOf(&got).Elem()) {
			for i := list.Len(); i < list.Cap(); i++ {
				if !room(list).Index(i).IsZero() {
					t.Fatalf("%s: %v lies behind the list %d", what, room(list).Index(i), at)
				}
			}
		}
	})
}

// The names of what was there, and that of the line, lie in memory of their own.
func TestNamesToldAreNew(t *testing.T) {
	apart := func(what, told, in string) {
		if told != in {
			t.Fatalf("%s: %q, not %q", what, told, in)
		}
		if unsafe.StringData(told) == unsafe.StringData(in) {
			t.Errorf("%s lies in the memory of what was handed in", what)
		}
	}
	n := whole()
	for _, l := range rights() {
		got := put(n, l)
		for i := range n.Devices {
			apart("a device's name", got.Devices[i].Name, n.Devices[i].Name)
		}
		for i := range n.Ports {
			apart("a port's name", got.Ports[i].Name, n.Ports[i].Name)
		}
		for i := range n.Vrfs {
			apart("a VRF's name", got.Vrfs[i].Name, n.Vrfs[i].Name)
		}
		if l.Kind == kVrf {
			apart("the line's name", got.Vrfs[len(n.Vrfs)].Name, l.Name)
		}
	}
}

// What is told hangs on what was handed in alone, not on an earlier call.
func TestNothingIsKept(t *testing.T) {
	n := whole()
	for range 3 {
		makesVrf(t, "a VRF", n, vrf("d", "red", by(1), nil), 3)
		makesVrf(t, "another one", n, vrf("d", "red", nil, by(2)), 3)
		makesIrb(t, "an interface", n, irb("a", 20, "red", 0x0c000001, 24), 1, 0)
		makesIrb(t, "another one", n, irb("c", 1, "red", 0x0c000001, 24), 5, 4)
		for _, l := range refusals() {
			_, e := said(n, l, l.Kind)
			refuses(t, "refused", n, l, e)
		}
		leaks(t, "the whole", n, 2, 0, true)
		leaks(t, "the whole", n, 0, 2, false)
		routes(t, "the whole", n, 0, host(0x0a000001), 0)
	}
	// A VRF's name goes, then a target comes, then an address changes, then an interface goes, then the net.
	n.Vrfs[3].Name = "grey"
	makesVrf(t, "a name that is gone", n, vrf("d", "blue", nil, nil), 3)
	refuses(t, "a name that is gone", n, irb("d", 10, "blue", 0x0c000001, 24), name)
	n.Vrfs[2].Imports = by(1)
	leaks(t, "a target that came", n, 0, 2, true)
	n.Irbs[0].Net.Addr = 0x0d000001
	routes(t, "an address that is gone", n, 0, host(0x0a000001), -1)
	routes(t, "an address that came", n, 0, host(0x0d000001), 0)
	makesIrb(t, "an address that is gone", n, irb("c", 1, "red", 0x0a000001, 24), 5, 4)
	refuses(t, "an address that came", n, irb("c", 1, "red", 0x0d000001, 24), faces)
	n.Irbs, n.Domains[7].Irb = n.Irbs[:3], -1
	makesIrb(t, "an interface that is gone", n, irb("d", 10, "grey", 0x0a000301, 25), 7, 3)
	routes(t, "an interface that is gone", n, 7, host(0x0a000301), -1)
	n.Irbs[2].Net.Bits = 31
	refuses(t, "a net turned", n, vrf("d", "red", nil, nil), arg)
	leaks(t, "a net turned", n, 2, 0, false)
	routes(t, "a net turned", n, 0, host(0x0d000001), -1)
}
