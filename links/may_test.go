package links_test

import (
	"fmt"
	"reflect"
	"testing"
	"unsafe"

	"paling/api"
	"paling/links"
	"paling/names"
)

// P17.4, and what holds everywhere

// puts hands one each net that may be with links of some of its ports that are put into it.
func puts(t *testing.T, one func(what string, n api.Net, l api.Line)) {
	t.Helper()
	count := 0
	for what, n := range goods() {
		for a := range n.Ports {
			for b := range n.Ports {
				l := between(n, a, b)
				// Of nets that have many ports some at each end are enough.
				if _, e := said(n, l); e == ok && (a+b < 9 || a+b > 2*len(n.Ports)-6) {
					one(fmt.Sprintf("%s with %+v", what, l), n, l)
					count++
				}
			}
		}
	}
	if count < 80 {
		t.Errorf("%d lines are put", count)
	}
}

// The net that is told may be; each list is as it was, each record as it was, but that there is a link more, behind all others, and that both its ports have it.
func TestWhatWasThereStands(t *testing.T) {
	puts(t, func(what string, n api.Net, l api.Line) {
		got, _ := links.Add(clone(n, 2), l)
		if !names.Right(got) {
			t.Fatalf("%s: the net told may not be: %.2000v", what, got)
		}
		at := len(n.Links)
		if len(got.Links) != at+1 || len(got.Ports) != len(n.Ports) {
			t.Fatalf("%s: %d links and %d ports", what, len(got.Links), len(got.Ports))
		}
		put := got.Links[at]
		for i := range got.Ports {
			was := n.Ports[i].Link
			if i == put.A || i == put.B {
				was = at
			}
			if got.Ports[i].Link != was {
				t.Fatalf("%s: the port %d has the link %d, not %d", what, i, got.Ports[i].Link, was)
			}
			got.Ports[i].Link = n.Ports[i].Link
		}
		got.Links = got.Links[:at]
		if !equal(got, n) {
			t.Fatalf("%s: but for the link and its ports the net is\n%.2000v, not\n%.2000v", what, got, n)
		}
	})
}

// Of what was put either port is the other one's, and their VLANs cross as the chapter says; what crossed ahead of it crosses as it did.
func TestWhatIsPutIsCrossed(t *testing.T) {
	puts(t, func(what string, n api.Net, l api.Line) {
		got, _ := links.Add(n, l)
		put := got.Links[len(n.Links)]
		isOther(t, what, got, put.A, put.B)
		isOther(t, what, got, put.B, put.A)
		for port := range got.Ports {
			for _, vlan := range []int{0, 1, 10, 20, 30, 40, 4094} {
				if port == put.A || port == put.B {
					isLaid(t, what, got, port, vlan)
					continue
				}
				f, v, ok := links.Cross(n, port, vlan)
				if far, to, still := links.Cross(got, port, vlan); far != f || to != v || still != ok {
					t.Fatalf("%s: the VLAN %d of the port %d crosses to %d, %d, %v, not to %d, %d, %v", what, vlan, port, far, to, still, f, v, ok)
				}
			}
		}
	})
}

// numbers are all numbers of a net that stand somewhere.
func numbers(v reflect.Value) []reflect.Value {
	switch v.Kind() {
	case reflect.Struct:
		var l []reflect.Value
		for i := range v.NumField() {
			l = append(l, numbers(v.Field(i))...)
		}
		return l
	case reflect.Slice:
		var l []reflect.Value
		for i := range v.Len() {
			l = append(l, numbers(v.Index(i))...)
		}
		return l
	case reflect.Int:
		return []reflect.Value{v}
	}
	return nil
}

// Nets with each number turned to some of each kind, the ends too: whether or not they may be then, each call tells what the chapter says.
func TestNetsOfAnyNumbers(t *testing.T) {
	n := whole()
	right := 0
	for i, v := range numbers(reflect.ValueOf(&n).Elem()) {
		was := v.Int()
		for _, to := range []int64{least, -2, -1, 0, 1, 3, 4, 7, 9, 10, 40, 4095, 65536, 1 << 24, most} {
			v.SetInt(to)
			what := fmt.Sprint("the number ", i, " is ", to)
			isSaid(t, what, n, link("a", "p1", "d", "p1"))
			isSaid(t, what, n, link("c", "p1", "a", "p2"))
			for port := range n.Ports {
				isOther(t, what, n, port, saidOther(n, port))
				isLaid(t, what, n, port, n.Ports[port].Native)
			}
			isLaid(t, what, n, 1, 10)
			if names.Right(n) {
				right++
			}
		}
		v.SetInt(was)
	}
	if right < 100 {
		t.Errorf("%d nets may be", right)
	}
}

// What is handed in reads afterwards as it did, what lies behind the lists' ends too; the line too, and with an error too.
func TestWhatIsHandedInStays(t *testing.T) {
	asked := func(what string, n api.Net, l api.Line) {
		n, l = clone(n, 4), clone(l, 4)
		nets, line := rooms(n), rooms(l)
		links.Add(n, l)
		for _, port := range []int{-1, 0, 1, 2, 3, 4, 5} {
			for _, vlan := range []int{0, 10, 20, 30} {
				links.Other(n, port)
				links.Cross(n, port, vlan)
				links.Domain(n, port, vlan)
			}
		}
		if !reflect.DeepEqual(rooms(n), nets) {
			t.Fatalf("%s: the net is changed", what)
		}
		if !reflect.DeepEqual(rooms(l), line) {
			t.Fatalf("%s: the line is changed", what)
		}
	}
	puts(t, asked)
	refused := append(others(), link("z", "p1", "d", "p1"), link("a", "p1", "d", "p9"), link("a", "p1", "a", "p2"), link("a", "p2", "d", "p1"), link("d", "p1", "b", "p1"),
		link("sw1", "p1", "sw2", "p2"), link("", "p1", "d", "p1"), api.Line{Kind: 3, Dev: "a", Port: "p1", Peer: "d", Far: "p1", Tagged: []int{1}, Addrs: []uint32{1}})
	for _, l := range refused {
		for what, n := range goods() {
			asked(what, n, l)
		}
	}
	for _, f := range faults() {
		n := whole()
		f.turn(&n)
		asked(f.what, n, link("a", "p1", "d", "p1"))
	}
}

// What is written into the net that is told, into its lists and behind their ends, changes nothing of what was handed in, nor of another net that was told; and the other way round.
func TestWhatIsToldIsNew(t *testing.T) {
	puts(t, func(what string, start api.Net, line api.Line) {
		want, e := said(start, line)
		if e != ok {
			t.Fatalf("%s: the chapter says %d", what, e)
		}
		n, l := clone(start, 3), clone(line, 3)
		wasNet, wasLine := rooms(n), rooms(l)
		got, _ := links.Add(n, l)
		again, _ := links.Add(n, l)
		spoil(&got)
		if !reflect.DeepEqual(rooms(n), wasNet) {
			t.Fatalf("%s: what is written into the net told is in the one handed in", what)
		}
		if !reflect.DeepEqual(rooms(l), wasLine) {
			t.Fatalf("%s: what is written into the net told is in the line", what)
		}
		if !equal(again, want) {
			t.Fatalf("%s: two nets told share memory", what)
		}
		spoil(&n)
		spoil(&l)
		if !equal(again, want) {
			t.Fatalf("%s: what is written into what was handed in is in the net told", what)
		}
		isPut(t, what+", once more", clone(start, 0), clone(line, 0), want)
	})
}

// A net that is told is no part of the next one, however much room there is behind its lists: two links that are put into one net do not meet.
func TestNetsThatGoOnFromOne(t *testing.T) {
	base := ladder(0, mostPorts)
	for i := range 18 {
		base = makes(t, "a link", base, between(base, 2*i, 2*i+1), 2*i, 2*i+1)
		a := makes(t, "one", base, between(base, 36, 37), 36, 37)
		b := makes(t, "another one", base, between(base, 39, 38), 39, 38)
		at := len(base.Links)
		if a.Links[at] != (api.Link{Row: 90, A: 36, B: 37}) || b.Links[at] != (api.Link{Row: 90, A: 39, B: 38}) {
			t.Fatalf("two links put into one net meet: %+v, %+v", a.Links[at], b.Links[at])
		}
		for port, want := range map[int][2]int{36: {at, -1}, 37: {at, -1}, 38: {-1, at}, 39: {-1, at}} {
			if a.Ports[port].Link != want[0] || b.Ports[port].Link != want[1] || base.Ports[port].Link != -1 {
				t.Fatalf("the port %d has the links %d and %d", port, a.Ports[port].Link, b.Ports[port].Link)
			}
		}
	}
}

// No two lists of a net that is told share memory, spare room neither, though those handed in do.
func TestListsToldAreApart(t *testing.T) {
	shared := []int{1, 2, 3, 4, 5, 6}
	n := row(2)
	n.Ports = []api.Port{{Name: "p1", Link: -1, Tagged: shared[:3]}, {Dev: 1, Name: "p2", Link: -1, Tagged: shared[:3]}, {Name: "p3", Link: -1, Tagged: shared[2:4]}}
	for dev := range n.Devices {
		for _, vlan := range shared {
			n.Domains = append(n.Domains, api.Domain{Dev: dev, Vlan: vlan, Irb: -1, Peers: shared[:0]})
		}
	}
	n.Vrfs = []api.Vrf{{Name: "red", Imports: shared[:4], Exports: shared[:4]}, {Name: "blue", Imports: shared, Exports: shared[1:5]}}
	addrs := []uint32{1, 2, 3}
	n.Floods = []api.Flood{{Addrs: addrs}, {Addrs: addrs[:2]}}
	l := link("sw1", "p1", "sw2", "p2")
	want, e := said(n, l)
	if e != ok {
		t.Fatalf("the chapter says %d", e)
	}
	got := isPut(t, "shared lists", n, l, want)
	count := 0
	for at, list := range lists(reflect.ValueOf(&got).Elem()) {
		if kind := list.Type().Elem().Kind(); kind != reflect.Int && kind != reflect.Uint32 {
			continue
		}
		one, _ := links.Add(n, l)
		list = lists(reflect.ValueOf(&one).Elem())[at]
		for i := range list.Cap() {
			fill(room(list).Index(i))
		}
		// Only this one is another one now.
		list.Set(lists(reflect.ValueOf(&want).Elem())[at])
		if !equal(one, want) {
			t.Fatalf("the list %d shares memory with another one", at)
		}
		count++
	}
	if count < 15 {
		t.Errorf("%d lists", count)
	}
	if shared[0] != 1 || shared[5] != 6 || addrs[0] != 1 {
		t.Fatal("what was handed in is written into")
	}
}

// Nothing of what lies behind the ends of what was handed in is handed out, behind an end neither.
func TestNothingIsToldFromBehindEnds(t *testing.T) {
	puts(t, func(what string, n api.Net, l api.Line) {
		got, _ := links.Add(clone(n, 3), clone(l, 3))
		for at, list := range lists(reflect.ValueOf(&got).Elem()) {
			for i := list.Len(); i < list.Cap(); i++ {
				if !room(list).Index(i).IsZero() {
					t.Fatalf("%s: %v lies behind the list %d", what, room(list).Index(i), at)
				}
			}
		}
	})
}

// The names of what was there lie in memory of their own.
func TestNamesToldAreNew(t *testing.T) {
	apart := func(what, told, in string) {
		if told != in {
			t.Fatalf("%s: %q, not %q", what, told, in)
		}
		if unsafe.StringData(told) == unsafe.StringData(in) {
			t.Errorf("%s lies in the memory of what was handed in", what)
		}
	}
	n := whole()
	got, _ := links.Add(n, link("a", "p1", "d", "p1"))
	for i := range n.Devices {
		apart("a device's name", got.Devices[i].Name, n.Devices[i].Name)
	}
	for i := range n.Ports {
		apart("a port's name", got.Ports[i].Name, n.Ports[i].Name)
	}
	for i := range n.Vrfs {
		apart("a VRF's name", got.Vrfs[i].Name, n.Vrfs[i].Name)
	}
}

// What is told hangs on what was handed in alone, not on an earlier call.
func TestNothingIsKept(t *testing.T) {
	n := whole()
	for range 3 {
		makes(t, "a link", n, link("a", "p1", "d", "p1"), 0, 6)
		makes(t, "another one of its port", n, link("c", "p2", "a", "p1"), 5, 0)
		isRefused(t, "a port that has one", n, link("a", "p2", "d", "p1"), linked)
		isRefused(t, "no device", n, link("z", "p2", "d", "p1"), name)
		isOther(t, "the whole", n, 1, 2)
		crosses(t, "the whole", n, 3, 30, 4, 40, 8)
		stays(t, "the whole", n, 0, 10)
	}
	// The VLANs of a port change, then its link, then its net.
	n.Ports[4].Native = 1
	crosses(t, "another native VLAN", n, 3, 30, 4, 1, 5)
	stays(t, "the one it had", n, 4, 40)
	n.Links[1].A, n.Ports[4].Link, n.Ports[5].Link = 5, -1, 1
	isOther(t, "another port", n, 3, 5)
	crosses(t, "another port", n, 3, 30, 5, 4094, 6)
	isOther(t, "the port it had", n, 4, -1)
	makes(t, "the port it had", n, link("c", "p1", "a", "p1"), 4, 0)
	n.Devices[0].Name = "x"
	isRefused(t, "a name that is gone", n, link("c", "p1", "a", "p1"), name)
	makes(t, "a name that came", n, link("c", "p1", "x", "p1"), 4, 0)
	n.Devices[0].Vtep = 0
	isRefused(t, "a net turned", n, link("c", "p1", "x", "p1"), arg)
	isOther(t, "a net turned", n, 3, -1)
	stays(t, "a net turned", n, 3, 30)
}
