package overlay_test

import (
	"fmt"
	"reflect"
	"slices"
	"testing"
	"unsafe"

	"paling/api"
	"paling/names"
	"paling/overlay"
)

// P19.5, and what holds everywhere

// made hands one each net that may be with what is made of it: by lines that are put, and by meshes, whose line is none.
func made(t *testing.T, one func(what string, n api.Net, l api.Line, do func(n api.Net, l api.Line) api.Net, want api.Net)) {
	t.Helper()
	all := goods()
	for seed := range 60 {
		n := drawn(draws(uint64(seed)))
		all[fmt.Sprint("the net ", seed)] = n
		all[fmt.Sprint("some of the net ", seed)] = thinned(n, draws(uint64(seed)))
	}
	count := [2]int{}
	for what, n := range all {
		draw := draws(7)
		lines := append(rights(), refusals()...)
		for range 30 {
			lines = append(lines, drawnLine(n, draw))
		}
		for _, l := range lines {
			if want, e := said(n, l, l.Kind); e == ok {
				one(fmt.Sprintf("%s with %+v", what, l), n, l, put, want)
				count[0]++
			}
		}
		if want, _, e := saidMesh(n); e == ok {
			one(what+", meshed", n, api.Line{}, mesh, want)
			count[1]++
		}
	}
	if count[0] < 300 || count[1] < 30 {
		t.Errorf("%d lines are put, %d nets are meshed", count[0], count[1])
	}
}

// thinned is a net without some of its VTEPs, VNIs and flood lists, and without peers.
func thinned(n api.Net, draw func(below int) int) api.Net {
	n = clone(n, 0)
	for i := range n.Devices {
		if draw(2) == 0 {
			n.Devices[i].Vtep = 0
		}
	}
	for i := range n.Domains {
		n.Domains[i].Peers = nil
		if draw(2) == 0 {
			n.Domains[i].Vni = 0
		}
	}
	n.Floods = slices.DeleteFunc(n.Floods, func(api.Flood) bool { return draw(2) == 0 })
	return n
}

// put is the net that a line makes.
func put(n api.Net, l api.Line) api.Net {
	m, _ := puts()[l.Kind](n, l)
	return m
}

// mesh is the net with its meshes.
func mesh(n api.Net, _ api.Line) api.Net {
	m, _, _ := overlay.Mesh(n)
	return m
}

// The net that is told may be; each list is as it was, each record as it was, but for what the line, or the mesh, turns.
func TestWhatWasThereStands(t *testing.T) {
	made(t, func(what string, n api.Net, l api.Line, do func(n api.Net, l api.Line) api.Net, want api.Net) {
		got := do(clone(n, 2), l)
		if !names.Right(got) {
			t.Fatalf("%s: the net told may not be: %.2000v", what, got)
		}
		if !equal(got, want) {
			t.Fatalf("%s: the net told is\n%.2000v, not\n%.2000v", what, got, want)
		}
		switch l.Kind {
		case kVtep:
			for i := range got.Devices {
				got.Devices[i].Vtep = n.Devices[i].Vtep
			}
		case kVni:
			for i := range got.Domains {
				got.Domains[i].Vni, got.Domains[i].Row = n.Domains[i].Vni, n.Domains[i].Row
			}
		case kFlood:
			got.Floods = got.Floods[:len(n.Floods)]
		default:
			for i := range got.Domains {
				got.Domains[i].Peers = n.Domains[i].Peers
			}
		}
		from, to := reflect.ValueOf(clone(n, 0)), reflect.ValueOf(clone(got, 0))
		for i := range from.NumField() {
			if !reflect.DeepEqual(to.Field(i).Interface(), from.Field(i).Interface()) {
				t.Fatalf("%s: the %s are\n%.2000v, not\n%.2000v", what, from.Type().Field(i).Name, to.Field(i), from.Field(i))
			}
		}
	})
}

// What is put is there: a VTEP once, a VNI where it is found, and a flood list; each again is refused.
func TestWhatIsPutIsThere(t *testing.T) {
	made(t, func(what string, n api.Net, l api.Line, do func(n api.Net, l api.Line) api.Net, want api.Net) {
		got := do(n, l)
		dev := names.Device(got, l.Dev)
		switch l.Kind {
		case kVtep:
			if got.Devices[dev].Vtep != l.Addr || n.Devices[dev].Vtep != 0 {
				t.Fatalf("%s: the VTEP is %d", what, got.Devices[dev].Vtep)
			}
		case kVni:
			finds(t, what, n, dev, l.Num, -1)
			finds(t, what, got, dev, l.Num, names.Domain(got, dev, l.Vlan))
		case kFlood:
			if f := got.Floods[len(n.Floods)]; f.Dev != dev || f.Vni != l.Num || overlay.Find(got, f.Dev, f.Vni) < 0 {
				t.Fatalf("%s: the flood list is %+v", what, f)
			}
		default:
			return
		}
		refuses(t, what+", again", got, l, twice)
	})
}

// Peers are one another's, and each one's are all others of its mesh: of unlike devices, with VTEPs, and of one VNI.
func TestPeersAreAMesh(t *testing.T) {
	meshes, domains := 0, 0
	for seed := range 2500 {
		got, _, e := overlay.Mesh(drawn(draws(uint64(5000 + seed))))
		if e != ok {
			continue
		}
		meshes++
		if !names.Right(got) {
			t.Fatalf("seed %d: the net told may not be: %.2000v", seed, got)
		}
		for at, d := range got.Domains {
			all := slices.Sorted(slices.Values(append([]int{at}, d.Peers...)))
			if len(d.Peers) > 0 {
				domains++
			}
			for _, peer := range d.Peers {
				p := got.Domains[peer]
				if !slices.Contains(p.Peers, at) {
					t.Fatalf("seed %d: %d is a peer of %d, but not the other way round", seed, peer, at)
				}
				if theirs := slices.Sorted(slices.Values(append([]int{peer}, p.Peers...))); !slices.Equal(theirs, all) {
					t.Fatalf("seed %d: the mesh of %d is %v, that of its peer %d is %v", seed, at, all, peer, theirs)
				}
				if p.Vni != d.Vni || d.Vni == 0 || p.Dev == d.Dev || got.Devices[p.Dev].Vtep == 0 || got.Devices[d.Dev].Vtep == 0 {
					t.Fatalf("seed %d: %+v and %+v are peers", seed, d, p)
				}
			}
			if list := saidList(got, d.Dev, d.Vni); list < 0 && len(d.Peers) > 0 || list >= 0 && d.Vni != 0 && len(got.Floods[list].Addrs) != len(d.Peers) {
				t.Fatalf("seed %d: %+v has not the peers of its list", seed, d)
			}
		}
		isMeshed(t, fmt.Sprint("seed ", seed, ", again"), got, peersOf(got))
	}
	if meshes < 500 || domains < 5000 {
		t.Errorf("%d nets, %d domains with peers", meshes, domains)
	}
}

// peersOf are the peers of a net's domains.
func peersOf(n api.Net) map[int][]int {
	peers := map[int][]int{}
	for at, d := range n.Domains {
		peers[at] = d.Peers
	}
	return peers
}

// numbers are all numbers of a net that stand somewhere.
func numbers(v reflect.Value) []reflect.Value {
	var l []reflect.Value
	switch v.Kind() {
	case reflect.Struct:
		for i := range v.NumField() {
			l = append(l, numbers(v.Field(i))...)
		}
	case reflect.Slice:
		for i := range v.Len() {
			l = append(l, numbers(v.Index(i))...)
		}
	case reflect.Int, reflect.Uint32:
		l = append(l, v)
	}
	return l
}

// Nets with each number turned to some of each kind, the ends too: whether or not they may be then, each call tells what the chapter says.
func TestNetsOfAnyNumbers(t *testing.T) {
	n := whole()
	right, meshed := 0, 0
	for i, v := range numbers(reflect.ValueOf(&n).Elem()) {
		was := reflect.ValueOf(v.Interface())
		for _, to := range []int{least, -2, -1, 0, 1, 3, 4, 7, 9, 10, 40, 4095, 5010, 0x0a000001, 0x0a000003, 1 << 24, most} {
			v.Set(reflect.ValueOf(to).Convert(v.Type()))
			what := fmt.Sprint("the number ", i, " is ", to)
			for _, l := range append(rights(), vtep("a", 99), vni("b", 30, 7), flood("c", 5010, 9)) {
				isSaid(t, what, l.Kind, n, l)
			}
			for _, num := range []int{-1, 0, 7, 5010, 5030} {
				finds(t, what, n, 0, num, saidFind(n, 0, num))
				finds(t, what, n, 2, num, saidFind(n, 2, num))
			}
			if _, _, e := isMeshedAsSaid(t, what, n); e == ok {
				meshed++
			}
			if names.Right(n) {
				right++
			}
		}
		v.Set(was)
	}
	if right < 300 || meshed < 300 || right < meshed+20 {
		t.Errorf("%d nets may be, %d are meshed", right, meshed)
	}
}

// What is handed in reads afterwards as it did, what lies behind the lists' ends too; the line too, and with an error too.
func TestWhatIsHandedInStays(t *testing.T) {
	asked := func(what string, n api.Net, l api.Line) {
		t.Helper()
		n, l = clone(n, 4), clone(l, 4)
		nets, line := rooms(n), rooms(l)
		for _, call := range puts() {
			call(n, l)
		}
		overlay.Mesh(n)
		for _, dev := range []int{-1, 0, 1, 2, 3, 4} {
			overlay.Find(n, dev, 5)
			overlay.Find(n, dev, 5010)
		}
		if !reflect.DeepEqual(rooms(n), nets) {
			t.Fatalf("%s: the net is changed", what)
		}
		if !reflect.DeepEqual(rooms(l), line) {
			t.Fatalf("%s: the line is changed", what)
		}
	}
	made(t, func(what string, n api.Net, l api.Line, _ func(n api.Net, l api.Line) api.Net, _ api.Net) {
		asked(what, n, l)
	})
	wrong := []api.Line{vtep("", 9), vni("a", 20, 0), flood("c", 7), {Kind: kFlood, Dev: "a", Num: 5, Addrs: to(1), Tagged: []int{1}, Imports: []int{2}, Exports: []int{3}}}
	for _, l := range slices.Concat(others(), refusals(), wrong) {
		for what, n := range goods() {
			asked(what, n, l)
		}
	}
	for _, f := range faults() {
		n := whole()
		f.turn(&n)
		asked(f.what, n, flood("c", 7, 9))
	}
	for seed := range 300 {
		asked(fmt.Sprint("seed ", seed), drawn(draws(uint64(seed))), flood("sw1", 5, 9))
	}
}

// What is written into the net that is told, into its lists and behind their ends, changes nothing of what was handed in, nor of another net that was told; and the other way round.
func TestWhatIsToldIsNew(t *testing.T) {
	made(t, func(what string, start api.Net, line api.Line, do func(n api.Net, l api.Line) api.Net, want api.Net) {
		n, l := clone(start, 3), clone(line, 3)
		wasNet, wasLine := rooms(n), rooms(l)
		got, again := do(n, l), do(n, l)
		spoil(&got)
		if !reflect.DeepEqual(rooms(n), wasNet) {
			t.Fatalf("%s: what is written into the net told is in the one handed in", what)
		}
		if !reflect.DeepEqual(rooms(l), wasLine) {
			t.Fatalf("%s: what is written into the net told is in the line", what)
		}
		if !equal(again, want) {
			t.Fatalf("%s: two nets told share memory", what)
		}
		spoil(&n)
		spoil(&l)
		if !equal(again, want) {
			t.Fatalf("%s: what is written into what was handed in is in the net told", what)
		}
		if !equal(do(clone(start, 0), clone(line, 0)), want) {
			t.Fatalf("%s: another net is told once more", what)
		}
	})
}

// A net that is told is no part of the next one, however much room there is behind its list: two flood lists that are put into one net do not meet.
func TestNetsThatGoOnFromOne(t *testing.T) {
	n := row(8)
	for i := range 48 {
		n.Devices[i%8].Vtep = uint32(i%8 + 1)
		n.Domains = append(n.Domains, api.Domain{Dev: i % 8, Vlan: 1 + i, Vni: i/8 + 1, Irb: -1})
	}
	for i := range 46 {
		l := flood(n.Devices[i%8].Name, i/8+1, 99)
		a := makesFlood(t, "one", n, flood("sw8", 6, 7), 7)
		b := makesFlood(t, "another one", n, flood("sw7", 6, 8), 6)
		if at := len(n.Floods); a.Floods[at].Addrs[0] != 7 || b.Floods[at].Addrs[0] != 8 || len(n.Floods) != i {
			t.Fatalf("two lists put into one net meet: %+v, %+v", a.Floods[at], b.Floods[at])
		}
		n = makesFlood(t, "a list", n, l, i%8)
	}
}

// No two lists of a net that is told share memory, spare room neither, though those handed in do.
func TestListsToldAreApart(t *testing.T) {
	shared := []int{1, 2, 3, 4, 5, 6}
	n := row(3)
	for dev := range n.Devices {
		n.Devices[dev].Vtep = uint32(dev + 1)
		for _, vlan := range shared {
			n.Domains = append(n.Domains, api.Domain{Dev: dev, Vlan: vlan, Irb: -1, Peers: shared[:0]})
		}
		n.Domains[6*dev].Vni, n.Domains[6*dev+1].Vni = 5, 6
		n.Ports = append(n.Ports, api.Port{Dev: dev, Link: -1, Tagged: shared[:3]})
	}
	n.Devices[2].Vtep = 0
	n.Vrfs = []api.Vrf{{Name: "red", Imports: shared[:4], Exports: shared[:4]}, {Name: "blue", Imports: shared, Exports: shared[1:5]}}
	addrs := to(2, 1)
	n.Floods = []api.Flood{{Dev: 0, Vni: 5, Addrs: addrs[:1]}, {Dev: 1, Vni: 5, Addrs: addrs[1:]}, {Dev: 0, Vni: 6, Addrs: addrs[:1]}, {Dev: 1, Vni: 6, Addrs: addrs[1:]}, {Dev: 2, Vni: 5, Addrs: addrs[:0]}}
	calls := map[string]func() (api.Net, api.Errno){
		"vtep":  func() (api.Net, api.Errno) { return overlay.Vtep(n, vtep("sw3", 9)) },
		"vni":   func() (api.Net, api.Errno) { return overlay.Vni(n, vni("sw1", 4, 9)) },
		"flood": func() (api.Net, api.Errno) { return overlay.Flood(n, flood("sw3", 6, addrs[1:]...)) },
		"mesh": func() (api.Net, api.Errno) {
			m, _, e := overlay.Mesh(n)
			return m, e
		},
	}
	for what, call := range calls {
		want, e := call()
		if e != ok {
			t.Fatalf("%s: %d", what, e)
		}
		want = clone(want, 0)
		count := 0
		for at, list := range lists(reflect.ValueOf(&want).Elem()) {
			if kind := list.Type().Elem().Kind(); kind != reflect.Int && kind != reflect.Uint32 {
				continue
			}
			one, _ := call()
			told := lists(reflect.ValueOf(&one).Elem())[at]
			for i := range told.Cap() {
				fill(room(told).Index(i))
			}
			// Only this one is another one now.
			told.Set(list)
			if !equal(one, want) {
				t.Fatalf("%s: the list %d shares memory with another one", what, at)
			}
			count++
		}
		if count < 30 {
			t.Errorf("%s: %d lists", what, count)
		}
	}
	if shared[0] != 1 || shared[5] != 6 || addrs[0] != 2 || addrs[1] != 1 {
		t.Fatal("what was handed in is written into")
	}
}

// Nothing of what lies behind the ends of what was handed in is handed out, behind an end neither.
func TestNothingIsToldFromBehindEnds(t *testing.T) {
	made(t, func(what string, n api.Net, l api.Line, do func(n api.Net, l api.Line) api.Net, _ api.Net) {
		got := do(clone(n, 3), clone(l, 3))
		for at, list := range lists(reflect.ValueOf(&got).Elem()) {
			for i := list.Len(); i < list.Cap(); i++ {
				if !room(list).Index(i).IsZero() {
					t.Fatalf("%s: %v lies behind the list %d", what, room(list).Index(i), at)
				}
			}
		}
	})
}

// The names of what was there lie in memory of their own.
func TestNamesToldAreNew(t *testing.T) {
	apart := func(what, told, in string) {
		if told != in {
			t.Fatalf("%s: %q, not %q", what, told, in)
		}
		if unsafe.StringData(told) == unsafe.StringData(in) {
			t.Errorf("%s lies in the memory of what was handed in", what)
		}
	}
	n := whole()
	for _, l := range append(rights(), api.Line{}) {
		got := mesh(n, l)
		if l.Kind != 0 {
			got = put(n, l)
		}
		for i := range n.Devices {
			apart("a device's name", got.Devices[i].Name, n.Devices[i].Name)
		}
		for i := range n.Ports {
			apart("a port's name", got.Ports[i].Name, n.Ports[i].Name)
		}
		for i := range n.Vrfs {
			apart("a VRF's name", got.Vrfs[i].Name, n.Vrfs[i].Name)
		}
	}
}

// What is told hangs on what was handed in alone, not on an earlier call.
func TestNothingIsKept(t *testing.T) {
	n := whole()
	peers := map[int][]int{0: {3, 8}, 2: {4}, 3: {8, 0}, 4: {2}, 8: {0, 3}}
	for range 3 {
		makesVtep(t, "a VTEP", n, vtep("d", 99), 3)
		makesVtep(t, "another one", n, vtep("d", 98), 3)
		makesVni(t, "a VNI", n, vni("a", 20, 9), 1)
		makesVni(t, "that of another device", n, vni("c", 1, 9), 5)
		makesFlood(t, "a flood list", n, flood("c", 7, 9), 2)
		makesFlood(t, "another one", n, flood("c", 7, 8), 2)
		for _, l := range refusals() {
			_, e := said(n, l, l.Kind)
			refuses(t, "refused", n, l, e)
		}
		finds(t, "the whole", n, 2, 5010, 8)
		isMeshed(t, "the whole", n, peers)
	}
	// A VTEP goes, with the peers that need it, then a VNI, then a list, then a name, then the net.
	n.Domains[2].Peers, n.Domains[4].Peers = nil, nil
	n.Domains[0].Peers, n.Domains[3].Peers, n.Domains[8].Peers = nil, nil, nil
	n.Devices[2].Vtep = 0
	makesVtep(t, "a VTEP that is gone", n, vtep("c", 99), 2)
	makesVtep(t, "its address", n, vtep("d", 0x0a000003), 3)
	refuses(t, "a VTEP that is gone", n, vni("c", 1, 9), noVtep)
	isNone(t, "a VTEP that is gone", n, floods, 24)
	n.Devices[2].Vtep = 0x0a000003
	n.Domains[8].Vni = 0
	finds(t, "a VNI that is gone", n, 2, 5010, -1)
	makesVni(t, "a VNI that is gone", n, vni("c", 40, 5010), 8)
	isNone(t, "a VNI that is gone", n, floods, 24)
	n.Domains[8].Vni = 5010
	isMeshed(t, "a VNI that came", n, peers)
	n.Floods = slices.Delete(n.Floods, 3, 4)
	makesFlood(t, "a list that is gone", n, flood("a", 5010, 9), 0)
	isNone(t, "a list that is gone", n, floods, 24)
	n.Devices[3].Name = "x"
	refuses(t, "a name that is gone", n, vtep("d", 99), name)
	makesVtep(t, "a name that came", n, vtep("x", 99), 3)
	n.Irbs[3].Net.Bits = 31
	refuses(t, "a net turned", n, vtep("x", 99), arg)
	finds(t, "a net turned", n, 0, 5010, -1)
	isNone(t, "a net turned", n, arg, 0)
}
