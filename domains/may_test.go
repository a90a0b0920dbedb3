package domains_test

import (
	"fmt"
	"reflect"
	"slices"
	"testing"
	"unsafe"

	"paling/api"
	"paling/domains"
	"paling/names"
)

// P18.4, and what holds everywhere

// puts hands one each net that may be with static entries that are put into it.
func puts(t *testing.T, one func(what string, n api.Net, l api.Line)) {
	t.Helper()
	all := goods()
	for seed := range 12 {
		all[fmt.Sprint("the net ", seed)] = drawn(draws(uint64(seed)))
	}
	count := 0
	for what, n := range all {
		for domain := range n.Domains {
			for port := range n.Ports {
				l := into(n, domain, port, uint64(2*domain+port))
				// Of nets that have many ports and domains some at each end are enough.
				if _, e := said(n, l); e == ok && ((domain+port)%5 == 0 || domain+port < 4) {
					one(fmt.Sprintf("%s with %+v", what, l), n, l)
					count++
				}
			}
		}
	}
	if count < 200 {
		t.Errorf("%d lines are put", count)
	}
}

// The net that is told may be; each list is as it was, each record as it was, but that there is a static entry more, behind all others.
func TestWhatWasThereStands(t *testing.T) {
	puts(t, func(what string, n api.Net, l api.Line) {
		got, _ := domains.Static(clone(n, 2), l)
		if !names.Right(got) {
			t.Fatalf("%s: the net told may not be: %.2000v", what, got)
		}
		at := len(n.Statics)
		if len(got.Statics) != at+1 {
			t.Fatalf("%s: %d static entries, not %d", what, len(got.Statics), at+1)
		}
		got.Statics = got.Statics[:at]
		from, to := reflect.ValueOf(clone(n, 0)), reflect.ValueOf(clone(got, 0))
		for i := range from.NumField() {
			if !reflect.DeepEqual(to.Field(i).Interface(), from.Field(i).Interface()) {
				t.Fatalf("%s: the %s are\n%.2000v, not\n%.2000v", what, from.Type().Field(i).Name, to.Field(i), from.Field(i))
			}
		}
	})
}

// What is put is looked up: it leads to the port that the line names, in the domain of the line's device and VLAN, and in no other one where it did not; its port has the VLAN. What was looked up ahead of it is looked up as it was.
func TestWhatIsPutIsLookedUp(t *testing.T) {
	puts(t, func(what string, n api.Net, l api.Line) {
		got, _ := domains.Static(n, l)
		dev := names.Device(n, l.Dev)
		domain, port := names.Domain(n, dev, l.Vlan), names.Port(n, dev, l.Port)
		leads(t, what, n, domain, l.Mac, -1)
		leads(t, what, got, domain, l.Mac, port)
		if !names.Member(got.Ports[port], l.Vlan) || !slices.Contains(names.Members(got, domain), port) {
			t.Fatalf("%s: the port %d has not the VLAN %d", what, port, l.Vlan)
		}
		for at := -1; at <= len(n.Domains); at++ {
			for _, mac := range []uint64{0, 1, 2, 7, 8, 9, l.Mac - 1, l.Mac, l.Mac + 1} {
				if at != domain || mac != l.Mac {
					leads(t, what, got, at, mac, domains.Lookup(n, at, mac))
				}
			}
			hosts(t, what, got, at, domains.Hosts(n, at)...)
			reads(t, what, got, at, domains.Text(n, at))
		}
	})
}

// Whatever is looked up, of any net that may be, is a port of the domain's device that has its VLAN.
func TestWhatIsLookedUpHasTheVlan(t *testing.T) {
	count := 0
	for seed := range 200 {
		n := drawn(draws(uint64(2000 + seed)))
		for domain, d := range n.Domains {
			for mac := range uint64(8) {
				port := domains.Lookup(n, domain, mac)
				if port == -1 {
					continue
				}
				if p := n.Ports[port]; p.Dev != d.Dev || !has(p, d.Vlan) || !slices.Contains(names.Members(n, domain), port) {
					t.Fatalf("seed %d: the address %d of the domain %+v leads to %+v", seed, mac, d, p)
				}
				count++
			}
		}
	}
	if count < 500 {
		t.Errorf("%d addresses are looked up", count)
	}
}

// numbers are all numbers of a net that stand somewhere.
func numbers(v reflect.Value) []reflect.Value {
	var l []reflect.Value
	switch v.Kind() {
	case reflect.Struct:
		for i := range v.NumField() {
			l = append(l, numbers(v.Field(i))...)
		}
	case reflect.Slice:
		for i := range v.Len() {
			l = append(l, numbers(v.Index(i))...)
		}
	case reflect.Int:
		l = append(l, v)
	}
	return l
}

// Nets with each number turned to some of each kind, the ends too: whether or not they may be then, each call tells what the chapter says.
func TestNetsOfAnyNumbers(t *testing.T) {
	n := whole()
	right := 0
	for i, v := range numbers(reflect.ValueOf(&n).Elem()) {
		was := v.Int()
		for _, to := range []int64{least, -2, -1, 0, 1, 3, 4, 7, 9, 10, 40, 4095, 65536, 1 << 24, most} {
			v.SetInt(to)
			what := fmt.Sprint("the number ", i, " is ", to)
			isSaid(t, what, n, static("a", 10, 99, "p1"))
			isSaid(t, what, n, static("d", 10, 0, "p1"))
			for domain := range n.Domains {
				leads(t, what, n, domain, 7, saidLookup(n, domain, 7))
				leads(t, what, n, domain, 0, saidLookup(n, domain, 0))
				hosts(t, what, n, domain, saidHosts(n, domain)...)
				reads(t, what, n, domain, saidText(n, domain))
			}
			if names.Right(n) {
				right++
			}
		}
		v.SetInt(was)
	}
	if right < 100 {
		t.Errorf("%d nets may be", right)
	}
}

// What is handed in reads afterwards as it did, what lies behind the lists' ends too; the line too, and with an error too.
func TestWhatIsHandedInStays(t *testing.T) {
	asked := func(what string, n api.Net, l api.Line) {
		n, l = clone(n, 4), clone(l, 4)
		nets, line := rooms(n), rooms(l)
		domains.Static(n, l)
		for _, domain := range []int{-1, 0, 1, 2, 5, 6, 7, 8, 9} {
			domains.Lookup(n, domain, l.Mac)
			domains.Hosts(n, domain)
			domains.Text(n, domain)
		}
		if !reflect.DeepEqual(rooms(n), nets) {
			t.Fatalf("%s: the net is changed", what)
		}
		if !reflect.DeepEqual(rooms(l), line) {
			t.Fatalf("%s: the line is changed", what)
		}
	}
	puts(t, asked)
	refused := append(others(), static("z", 10, 99, "p1"), static("a", 10, 99, "p9"), static("a", 20, 99, "p1"), static("a", 10, 7, "p2"), static("sw1", 20, 999, "p1"),
		static("", 10, 99, "p1"), api.Line{Kind: 4, Dev: "a", Vlan: 10, Mac: 99, Port: "p1", Tagged: []int{1}, Addrs: []uint32{1}})
	for _, l := range refused {
		for what, n := range goods() {
			asked(what, n, l)
		}
	}
	for _, f := range faults() {
		n := whole()
		f.turn(&n)
		asked(f.what, n, static("a", 10, 99, "p1"))
	}
}

// What is written into the net that is told, into its lists and behind their ends, changes nothing of what was handed in, nor of another net that was told; and the other way round.
func TestWhatIsToldIsNew(t *testing.T) {
	puts(t, func(what string, start api.Net, line api.Line) {
		want, e := said(start, line)
		if e != ok {
			t.Fatalf("%s: the chapter says %d", what, e)
		}
		n, l := clone(start, 3), clone(line, 3)
		wasNet, wasLine := rooms(n), rooms(l)
		got, _ := domains.Static(n, l)
		again, _ := domains.Static(n, l)
		spoil(&got)
		if !reflect.DeepEqual(rooms(n), wasNet) {
			t.Fatalf("%s: what is written into the net told is in the one handed in", what)
		}
		if !reflect.DeepEqual(rooms(l), wasLine) {
			t.Fatalf("%s: what is written into the net told is in the line", what)
		}
		if !equal(again, want) {
			t.Fatalf("%s: two nets told share memory", what)
		}
		spoil(&n)
		spoil(&l)
		if !equal(again, want) {
			t.Fatalf("%s: what is written into what was handed in is in the net told", what)
		}
		isPut(t, what+", once more", clone(start, 0), clone(line, 0), want)
	})
}

// A list of ports that is told is new, its room too: what is written there is neither in the net nor in another list told.
func TestHostsToldAreNew(t *testing.T) {
	for what, n := range goods() {
		for domain := range n.Domains {
			n := clone(n, 3)
			was := rooms(n)
			want := saidHosts(n, domain)
			got, again := domains.Hosts(n, domain), domains.Hosts(n, domain)
			for i := range got[:cap(got)] {
				if i >= len(got) && got[:cap(got)][i] != 0 {
					t.Fatalf("%s: %d lies behind the ports of the domain %d", what, got[:cap(got)][i], domain)
				}
				got[:cap(got)][i] = 77
			}
			if !reflect.DeepEqual(rooms(n), was) {
				t.Fatalf("%s: what is written into the ports told is in the net", what)
			}
			if !slices.Equal(again, want) {
				t.Fatalf("%s: two lists of ports told share memory", what)
			}
			hosts(t, what, n, domain, want...)
		}
	}
}

// A net that is told is no part of the next one, however much room there is behind its list: two entries that are put into one net do not meet.
func TestNetsThatGoOnFromOne(t *testing.T) {
	base := filled(0)
	for i := range 63 {
		base = makes(t, "an entry", base, static("sw1", 20, uint64(i), "p1"), 1, 0)
		a := makes(t, "one", base, static("sw1", 10, 100, "p2"), 0, 1)
		b := makes(t, "another one", base, static("sw2", 30, 200, "p1"), 5, 2)
		at := len(base.Statics)
		if a.Statics[at] != (api.Static{Row: 90, Domain: 0, Port: 1, Mac: 100}) || b.Statics[at] != (api.Static{Row: 90, Domain: 5, Port: 2, Mac: 200}) {
			t.Fatalf("two entries put into one net meet: %+v, %+v", a.Statics[at], b.Statics[at])
		}
		leads(t, "one", a, 0, 100, 1)
		leads(t, "one", a, 5, 200, -1)
		leads(t, "another one", b, 5, 200, 2)
		leads(t, "another one", b, 0, 100, -1)
		leads(t, "neither", base, 0, 100, -1)
	}
}

// No two lists of a net that is told share memory, spare room neither, though those handed in do.
func TestListsToldAreApart(t *testing.T) {
	shared := []int{1, 2, 3, 4, 5, 6}
	n := row(2)
	n.Ports = []api.Port{{Name: "p1", Link: -1, Tagged: shared[:3]}, {Dev: 1, Name: "p2", Link: -1, Tagged: shared[:3]}, {Name: "p3", Link: -1, Tagged: shared[2:4]}}
	for dev := range n.Devices {
		for _, vlan := range shared {
			n.Domains = append(n.Domains, api.Domain{Dev: dev, Vlan: vlan, Irb: -1, Peers: shared[:0]})
		}
	}
	n.Vrfs = []api.Vrf{{Name: "red", Imports: shared[:4], Exports: shared[:4]}, {Name: "blue", Imports: shared, Exports: shared[1:5]}}
	addrs := []uint32{1, 2, 3}
	n.Floods = []api.Flood{{Addrs: addrs}, {Addrs: addrs[:2]}}
	l := static("sw1", 4, 99, "p3")
	want, e := said(n, l)
	if e != ok {
		t.Fatalf("the chapter says %d", e)
	}
	got := isPut(t, "shared lists", n, l, want)
	count := 0
	for at, list := range lists(reflect.ValueOf(&got).Elem()) {
		if kind := list.Type().Elem().Kind(); kind != reflect.Int && kind != reflect.Uint32 {
			continue
		}
		one, _ := domains.Static(n, l)
		list = lists(reflect.ValueOf(&one).Elem())[at]
		for i := range list.Cap() {
			fill(room(list).Index(i))
		}
		// Only this one is another one now.
		list.Set(lists(reflect.ValueOf(&want).Elem())[at])
		if !equal(one, want) {
			t.Fatalf("the list %d shares memory with another one", at)
		}
		count++
	}
	if count < 15 {
		t.Errorf("%d lists", count)
	}
	if shared[0] != 1 || shared[5] != 6 || addrs[0] != 1 {
		t.Fatal("what was handed in is written into")
	}
}

// Nothing of what lies behind the ends of what was handed in is handed out, behind an end neither.
func TestNothingIsToldFromBehindEnds(t *testing.T) {
	puts(t, func(what string, n api.Net, l api.Line) {
		got, _ := domains.Static(clone(n, 3), clone(l, 3))
		for at, list := range lists(reflect.ValueOf(&got).Elem()) {
			for i := list.Len(); i < list.Cap(); i++ {
				if !room(list).Index(i).IsZero() {
					t.Fatalf("%s: %v lies behind the list %d", what, room(list).Index(i), at)
				}
			}
		}
	})
}

// The names of what was there lie in memory of their own.
func TestNamesToldAreNew(t *testing.T) {
	apart := func(what, told, in string) {
		if told != in {
			t.Fatalf("%s: %q, not %q", what, told, in)
		}
		if unsafe.StringData(told) == unsafe.StringData(in) {
			t.Errorf("%s lies in the memory of what was handed in", what)
		}
	}
	n := whole()
	got, _ := domains.Static(n, static("a", 10, 99, "p1"))
	for i := range n.Devices {
		apart("a device's name", got.Devices[i].Name, n.Devices[i].Name)
	}
	for i := range n.Ports {
		apart("a port's name", got.Ports[i].Name, n.Ports[i].Name)
	}
	for i := range n.Vrfs {
		apart("a VRF's name", got.Vrfs[i].Name, n.Vrfs[i].Name)
	}
}

// What is told hangs on what was handed in alone, not on an earlier call.
func TestNothingIsKept(t *testing.T) {
	n := whole()
	for range 3 {
		makes(t, "an entry", n, static("a", 10, 99, "p1"), 0, 0)
		makes(t, "it again, by another port", n, static("a", 10, 99, "p2"), 0, 1)
		isRefused(t, "one that is there", n, static("a", 10, 7, "p1"), twice)
		isRefused(t, "no device", n, static("z", 10, 99, "p1"), name)
		isRefused(t, "no VLAN of it", n, static("a", 20, 99, "p1"), member)
		leads(t, "the whole", n, 0, 99, -1)
		leads(t, "the whole", n, 0, 7, 1)
		hosts(t, "the whole", n, 6, 5)
		reads(t, "the whole", n, 6, "c/4094")
	}
	// The VLANs of a port change, then an entry, then a link, then a name, then the net.
	n.Ports[0].Native = 20
	makes(t, "a VLAN that came", n, static("a", 20, 99, "p1"), 1, 0)
	isRefused(t, "a VLAN that is gone", n, static("a", 10, 99, "p1"), member)
	hosts(t, "a VLAN that came", n, 1, 0)
	hosts(t, "a VLAN that is gone", n, 0)
	n.Statics[0].Mac = 99
	leads(t, "an entry that came", n, 0, 99, 1)
	leads(t, "an entry that is gone", n, 0, 7, -1)
	isRefused(t, "an entry that came", n, static("a", 10, 99, "p2"), twice)
	makes(t, "an entry that is gone", n, static("a", 10, 7, "p2"), 0, 1)
	n.Links, n.Ports[3].Link, n.Ports[4].Link = n.Links[:1], -1, -1
	hosts(t, "a link that is gone", n, 4, 3)
	hosts(t, "a link that is gone", n, 8, 4, 5)
	n.Devices[2].Name = "x"
	isRefused(t, "a name that is gone", n, static("c", 1, 99, "p2"), name)
	makes(t, "a name that came", n, static("x", 1, 99, "p2"), 5, 5)
	reads(t, "a name that came", n, 6, "x/4094")
	n.Devices[0].Vtep = 0
	isRefused(t, "a net turned", n, static("x", 1, 99, "p2"), arg)
	leads(t, "a net turned", n, 0, 99, -1)
	hosts(t, "a net turned", n, 6)
	reads(t, "a net turned", n, 6, "")
}
