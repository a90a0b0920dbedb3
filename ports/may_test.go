package ports_test

import (
	"fmt"
	"reflect"
	"strconv"
	"testing"
	"unsafe"

	"paling/api"
	"paling/names"
	"paling/ports"
)

// P16.3, and what holds everywhere

// fitting are lines that are put into a net, each by the call of its kind.
func fitting(n api.Net) []api.Line {
	var l []api.Line
	if len(n.Devices) < mostDevices {
		l = append(l, device("new", 4096, 0x0a0000000001))
	}
	for _, d := range n.Devices {
		if len(n.Ports) == mostPorts || d.Name == "" {
			continue
		}
		l = append(l, access(d.Name, "new", 1), trunk(d.Name, "new", 1, 10, 20), trunk(d.Name, "new", 0, 1, 10), trunk(d.Name, "new", 50, counted(1, 16)...))
	}
	return l
}

// callOf is the call for a line's kind.
func callOf(l api.Line) put {
	if l.Kind == 1 {
		return ports.Device
	}
	return ports.Port
}

// puts hands one each net that may be with each line that is put into it.
func puts(t *testing.T, one func(what string, n api.Net, l api.Line)) {
	t.Helper()
	count := 0
	for what, n := range goods() {
		for _, l := range fitting(n) {
			if _, e := callOf(l)(n, l); e == ok {
				one(fmt.Sprintf("%s with %+v", what, l), n, l)
				count++
			}
		}
	}
	if count < 80 {
		t.Errorf("%d lines are put", count)
	}
}

// begins tells whether a list of one net begins with that of another one, each record as it was.
func begins(list, with reflect.Value) bool {
	if list.Len() < with.Len() {
		return false
	}
	for i := range with.Len() {
		if !reflect.DeepEqual(cloneOf(list.Index(i), 0).Interface(), cloneOf(with.Index(i), 0).Interface()) {
			return false
		}
	}
	return true
}

// The net that is told may be; each list begins with what was there, each record as it was; and no list but those that the line is for has more.
func TestWhatWasThereStands(t *testing.T) {
	puts(t, func(what string, n api.Net, l api.Line) {
		got, _ := callOf(l)(clone(n, 2), l)
		if !names.Right(got) {
			t.Fatalf("%s: the net told may not be: %.2000v", what, got)
		}
		from, to := reflect.ValueOf(n), reflect.ValueOf(got)
		for i := range from.NumField() {
			list := from.Type().Field(i).Name
			if !begins(to.Field(i), from.Field(i)) {
				t.Fatalf("%s: the %s are\n%.2000v, not, at their beginning,\n%.2000v", what, list, to.Field(i), from.Field(i))
			}
			more := to.Field(i).Len() - from.Field(i).Len()
			switch {
			case l.Kind == 1 && list == "Devices", l.Kind == 2 && list == "Ports":
				if more != 1 {
					t.Fatalf("%s: %d more %s", what, more, list)
				}
			case l.Kind == 2 && list == "Domains":
				if more > 1+len(l.Tagged) {
					t.Fatalf("%s: %d more %s", what, more, list)
				}
			case more != 0:
				t.Fatalf("%s: %d more %s", what, more, list)
			}
		}
	})
}

// What was put is found by its name, with the members that it should have.
func TestWhatIsPutIsFound(t *testing.T) {
	puts(t, func(what string, n api.Net, l api.Line) {
		got, _ := callOf(l)(n, l)
		dev := names.Device(got, l.Dev)
		if l.Kind == 1 {
			if dev != len(n.Devices) {
				t.Fatalf("%s: the device is found at %d", what, dev)
			}
			return
		}
		port := names.Port(got, dev, l.Port)
		if port != len(n.Ports) {
			t.Fatalf("%s: the port is found at %d", what, port)
		}
		for _, vlan := range append(l.Tagged[:len(l.Tagged):len(l.Tagged)], l.Vlan) {
			if vlan == 0 {
				continue
			}
			members := names.Members(got, names.Domain(got, dev, vlan))
			if len(members) == 0 || members[len(members)-1] != port {
				t.Fatalf("%s: the members of the VLAN %d are %v", what, vlan, members)
			}
		}
	})
}

// drawn is a line of a device or a port, of few names, Macs and VLANs, that now and then may not be.
func drawn(draw func(below int) int) api.Line {
	dev := "d" + strconv.Itoa(draw(10))
	switch draw(12) {
	case 0, 1:
		return device(dev, draw(mostShort+1), uint64(draw(14)))
	case 2:
		return access(dev, "p"+strconv.Itoa(draw(9)), draw(5))
	case 3:
		return api.Line{Row: draw(400), Kind: draw(11), Dev: dev, Port: "p", Cost: 1, Vlan: 7}
	}
	var tagged []int
	for vlan := range 12 {
		if draw(4) == 0 {
			tagged = append(tagged, vlan+1-draw(30)/29)
		}
	}
	l := trunk(dev, "p"+strconv.Itoa(draw(9)), draw(2)*draw(13), tagged...)
	l.Row, l.Cost = draw(400), 1+draw(mostShort)
	return l
}

// Nets that are built of lines drawn, each step held against what the chapter says, wrong lines too.
func TestNetsBuiltOfLines(t *testing.T) {
	var count [40]int
	for seed := range 60 {
		draw := draws(uint64(seed))
		var n api.Net
		for range 120 {
			l := drawn(draw)
			isSaid(t, fmt.Sprint("seed ", seed), n, l)
			more, e := callOf(l)(n, l)
			if count[e]++; e == ok {
				n = more
			}
		}
	}
	for _, e := range []api.Errno{ok, arg, big, twice, name} {
		if count[e] < 100 {
			t.Errorf("the error %d is told %d times", e, count[e])
		}
	}
}

// numbers are all numbers of a net that stand somewhere.
func numbers(v reflect.Value) []reflect.Value {
	switch v.Kind() {
	case reflect.Struct:
		var l []reflect.Value
		for i := range v.NumField() {
			l = append(l, numbers(v.Field(i))...)
		}
		return l
	case reflect.Slice:
		var l []reflect.Value
		for i := range v.Len() {
			l = append(l, numbers(v.Index(i))...)
		}
		return l
	case reflect.Int:
		return []reflect.Value{v}
	}
	return nil
}

// Nets with each number turned to some of each kind, the ends too: whether or not they may be then, each call tells what the chapter says.
func TestNetsOfAnyNumbers(t *testing.T) {
	n := whole()
	right := 0
	for i, v := range numbers(reflect.ValueOf(&n).Elem()) {
		was := v.Int()
		for _, to := range []int64{least, -2, -1, 0, 1, 3, 4, 7, 9, 10, 4095, 65536, 1 << 24, most} {
			v.SetInt(to)
			what := fmt.Sprint("the number ", i, " is ", to)
			isSaid(t, what, n, device("z", 4096, 99))
			isSaid(t, what, n, trunk("c", "z", 10, 1, 2))
			if names.Right(n) {
				right++
			}
		}
		v.SetInt(was)
	}
	if right < 100 {
		t.Errorf("%d nets may be", right)
	}
}

// What is handed in reads afterwards as it did, what lies behind the lists' ends too; the line too, and with an error too.
func TestWhatIsHandedInStays(t *testing.T) {
	asked := func(what string, n api.Net, l api.Line) {
		n, l = clone(n, 4), clone(l, 4)
		nets, line := rooms(n), rooms(l)
		ports.Device(n, l)
		ports.Port(n, l)
		if !reflect.DeepEqual(rooms(n), nets) {
			t.Fatalf("%s: the net is changed", what)
		}
		if !reflect.DeepEqual(rooms(l), line) {
			t.Fatalf("%s: the line is changed", what)
		}
	}
	puts(t, asked)
	refused := append(others(), device("a", 1, 1), device("z", 1, 1), device("sw8", -1, 9), access("zz", "p1", 1), access("a", "p1", 10),
		access("sw1", "p1", 1), access("sw1", "z", 1), trunk("sw1", "z", 99, 100, 101), trunk("a", "z", 20, 10, 20), trunk("a", "z", 0, 20, 10))
	for _, l := range refused {
		for what, n := range goods() {
			asked(what, n, l)
		}
		for _, f := range faults() {
			n := whole()
			f.turn(&n)
			asked(f.what, n, l)
		}
	}
}

// What is written into the net that is told, into its lists and behind their ends, changes nothing of what was handed in, nor of another net that was told; and the other way round.
func TestWhatIsToldIsNew(t *testing.T) {
	puts(t, func(what string, start api.Net, line api.Line) {
		call := callOf(line)
		want, e := said(start, line, line.Kind)
		if e != ok {
			t.Fatalf("%s: the chapter says %d", what, e)
		}
		n, l := clone(start, 3), clone(line, 3)
		wasNet, wasLine := rooms(n), rooms(l)
		got, _ := call(n, l)
		again, _ := call(n, l)
		spoil(&got)
		if !reflect.DeepEqual(rooms(n), wasNet) {
			t.Fatalf("%s: what is written into the net told is in the one handed in", what)
		}
		if !reflect.DeepEqual(rooms(l), wasLine) {
			t.Fatalf("%s: what is written into the net told is in the line", what)
		}
		if !equal(again, want) {
			t.Fatalf("%s: two nets told share memory", what)
		}
		spoil(&n)
		spoil(&l)
		if !equal(again, want) {
			t.Fatalf("%s: what is written into what was handed in is in the net told", what)
		}
		isPut(t, what+", once more", call, clone(start, 0), clone(line, 0), want)
	})
}

// A net that is told is no part of the next one, however much room there is behind its lists: two nets that go on from one do not meet.
func TestNetsThatGoOnFromOne(t *testing.T) {
	base := row(3)
	for range 12 {
		last := fmt.Sprint("p", len(base.Ports))
		base = makes(t, "a port", base, access("sw1", last, len(base.Domains)+1), 0, len(base.Domains)+1)
		a := makes(t, "one", base, access("sw2", "one", 10), 1, 10)
		b := makes(t, "another one", base, trunk("sw3", "two", 0, 20, 30), 2, 20, 30)
		c := isDevice(t, "a device", base, device("x", 1, 50), api.Device{Row: 70, Priority: 1, Name: "x", Mac: 50})
		d := isDevice(t, "another device", base, device("y", 2, 60), api.Device{Row: 70, Priority: 2, Name: "y", Mac: 60})
		at, dom := len(base.Ports), len(base.Domains)
		if a.Ports[at].Name != "one" || a.Domains[dom].Vlan != 10 || b.Ports[at].Name != "two" || b.Domains[dom].Vlan != 20 {
			t.Fatalf("two ports put into one net meet: %+v, %+v", a.Ports[at], b.Ports[at])
		}
		if c.Devices[3].Name != "x" || d.Devices[3].Name != "y" {
			t.Fatalf("two devices put into one net meet: %+v, %+v", c.Devices[3], d.Devices[3])
		}
	}
}

// No two lists of a net that is told share memory, spare room neither, though those handed in do; nor does the port's with any.
func TestListsToldAreApart(t *testing.T) {
	shared := []int{1, 2, 3, 4, 5, 6}
	n := row(2)
	n.Ports = []api.Port{{Name: "p1", Link: -1, Tagged: shared[:3]}, {Name: "p2", Link: -1, Tagged: shared[:3]}, {Name: "p3", Link: -1, Tagged: shared[2:4]}}
	for _, vlan := range shared {
		n.Domains = append(n.Domains, api.Domain{Vlan: vlan, Irb: -1, Peers: shared[:0]})
	}
	n.Vrfs = []api.Vrf{{Name: "red", Imports: shared[:4], Exports: shared[:4]}, {Name: "blue", Imports: shared, Exports: shared[1:5]}}
	addrs := []uint32{1, 2, 3}
	n.Floods = []api.Flood{{Addrs: addrs}, {Addrs: addrs[:2]}}
	for _, l := range []api.Line{trunk("sw1", "z", 9, shared...), trunk("sw2", "z", 0, shared[:3]...), device("z", 1, 99)} {
		want, e := said(n, l, l.Kind)
		if e != ok {
			t.Fatalf("the chapter says %d", e)
		}
		got := isPut(t, "shared lists", callOf(l), n, l, want)
		count := 0
		for at, list := range lists(reflect.ValueOf(&got).Elem()) {
			if kind := list.Type().Elem().Kind(); kind != reflect.Int && kind != reflect.Uint32 {
				continue
			}
			one, _ := callOf(l)(n, l)
			list = lists(reflect.ValueOf(&one).Elem())[at]
			for i := range list.Cap() {
				fill(room(list).Index(i))
			}
			// Only this one is another one now.
			list.Set(lists(reflect.ValueOf(&want).Elem())[at])
			if !equal(one, want) {
				t.Fatalf("%+v: the list %d shares memory with another one", l, at)
			}
			count++
		}
		if count < 15 {
			t.Errorf("%+v: %d lists", l, count)
		}
		if shared[0] != 1 || shared[5] != 6 || addrs[0] != 1 {
			t.Fatalf("%+v: what was handed in is written into", l)
		}
	}
}

// Nothing of what lies behind the ends of what was handed in is handed out, behind an end neither.
func TestNothingIsToldFromBehindEnds(t *testing.T) {
	puts(t, func(what string, n api.Net, l api.Line) {
		got, _ := callOf(l)(clone(n, 3), clone(l, 3))
		for at, list := range lists(reflect.ValueOf(&got).Elem()) {
			for i := list.Len(); i < list.Cap(); i++ {
				if !room(list).Index(i).IsZero() {
					t.Fatalf("%s: %v lies behind the list %d", what, room(list).Index(i), at)
				}
			}
		}
	})
}

// The names of what is put, and of what was there, lie in memory of their own.
func TestNamesToldAreNew(t *testing.T) {
	apart := func(what, told, in string) {
		if told != in {
			t.Fatalf("%s: %q, not %q", what, told, in)
		}
		if unsafe.StringData(told) == unsafe.StringData(in) {
			t.Errorf("%s lies in the memory of what was handed in", what)
		}
	}
	n, l := whole(), device("z", 4096, 99)
	got, _ := ports.Device(n, l)
	apart("the device's name", got.Devices[4].Name, l.Dev)
	apart("an older device's name", got.Devices[1].Name, n.Devices[1].Name)
	l = access("a", "z", 10)
	got, _ = ports.Port(n, l)
	apart("the port's name", got.Ports[7].Name, l.Port)
	apart("an older port's name", got.Ports[2].Name, n.Ports[2].Name)
	apart("a VRF's name", got.Vrfs[3].Name, n.Vrfs[3].Name)
}

// What is told hangs on what was handed in alone, not on an earlier call.
func TestNothingIsKept(t *testing.T) {
	n := whole()
	for range 3 {
		isDevice(t, "a device", n, device("z", 4096, 99), api.Device{Row: 70, Priority: 4096, Name: "z", Mac: 99})
		makes(t, "a port", n, access("a", "z", 77), 0, 77)
		isRefused(t, "a device that is there", ports.Device, n, device("a", 4096, 99), twice)
		isRefused(t, "a port that is there", ports.Port, n, access("a", "p1", 10), twice)
		isRefused(t, "a device that is not there", ports.Port, n, access("z", "z", 77), name)
	}
	n.Devices[0].Name = "x"
	isDevice(t, "a name that is gone", n, device("a", 4096, 99), api.Device{Row: 70, Priority: 4096, Name: "a", Mac: 99})
	isRefused(t, "a name that is gone", ports.Port, n, access("a", "z", 10), name)
	makes(t, "a name that came", n, access("x", "z", 10), 0)
	n.Devices[0].Vtep = 0
	isRefused(t, "a net turned", ports.Device, n, device("z", 4096, 99), arg)
	isRefused(t, "a net turned", ports.Port, n, access("x", "z", 10), arg)
}
