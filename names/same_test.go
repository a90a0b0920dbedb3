package names_test

import (
	"reflect"
	"strconv"
	"testing"
	"unsafe"

	"paling/api"
	"paling/names"
)

// P15.4

// all are nets that may be, and nets that may not be.
func all() map[string]api.Net {
	l := goods()
	l["records of nothing"] = api.Net{
		Devices: make([]api.Device, 2), Ports: make([]api.Port, 2), Links: make([]api.Link, 2), Domains: make([]api.Domain, 2),
		Statics: make([]api.Static, 2), Floods: make([]api.Flood, 2), Vrfs: make([]api.Vrf, 2), Irbs: make([]api.Irb, 2),
	}
	wrong := whole()
	for _, f := range leaves(&wrong) {
		f.turn()
	}
	l["wrong numbers"] = wrong
	many := full()
	for range 2 {
		many.Devices, many.Ports, many.Links = append(many.Devices, many.Devices...), append(many.Ports, many.Ports...), append(many.Links, many.Links...)
		many.Domains, many.Statics, many.Irbs = append(many.Domains, many.Domains...), append(many.Statics, many.Statics...), append(many.Irbs, many.Irbs...)
	}
	l["too many"] = many
	return l
}

// areSame asks either way round whether two nets are alike.
func areSame(t *testing.T, what string, a, b api.Net, want bool) {
	t.Helper()
	if names.Same(a, b) != want || names.Same(b, a) != want {
		t.Fatalf("%s: Same is %v, and the other way round %v", what, names.Same(a, b), names.Same(b, a))
	}
}

func TestSameOfAlike(t *testing.T) {
	nets := all()
	for what, n := range nets {
		areSame(t, what+" and itself", n, n, true)
		areSame(t, what+" and a copy", n, clone(n, 0), true)
		// What lies behind the ends is no part of them.
		areSame(t, what+" and a copy with other spare room", clone(n, 1), clone(n, 3), true)
		for other, m := range nets {
			areSame(t, what+" and "+other, n, m, equal(n, m))
		}
	}
}

// turned turns each number and each name of a net, one at a time, and asks what becomes of Same.
func turned(t *testing.T, what string, start api.Net) int {
	t.Helper()
	n := clone(start, 0)
	all := leaves(&n)
	for _, l := range all {
		was := reflect.New(l.value.Type()).Elem()
		was.Set(l.value)
		l.turn()
		areSame(t, what+", another "+l.path, start, n, false)
		l.value.SetZero()
		areSame(t, what+", no "+l.path, start, n, was.IsZero())
		l.value.Set(was)
		areSame(t, what+", the "+l.path+" again", start, n, true)
	}
	return len(all)
}

// Each field of each record turned, each number of each list within too.
func TestSameAsksEachField(t *testing.T) {
	for what, n := range all() {
		turned(t, what, n)
	}
	if count := turned(t, "the whole", whole()); count != 189 {
		t.Errorf("%d numbers and names in all", count)
	}
	// Bits that lie high.
	for i := range 64 {
		n := whole()
		n.Devices[1].Mac ^= 1 << i
		areSame(t, "another bit of a Device's Mac", n, whole(), false)
		n = whole()
		n.Statics[1].Mac ^= 1 << i
		areSame(t, "another bit of a Static's Mac", n, whole(), false)
		n = whole()
		n.Ports[1].Tagged[0] ^= 1 << i
		areSame(t, "another bit of a VLAN", n, whole(), false)
		n = whole()
		n.Irbs[1].Net.Addr ^= 1 << (i % 32)
		areSame(t, "another bit of an Irb's address", n, whole(), false)
		n = whole()
		n.Floods[0].Addrs[1] ^= 1 << (i % 32)
		areSame(t, "another bit of a Flood's address", n, whole(), false)
	}
}

// Lists that are longer by one, at each place, and lists that have one less; in another order.
func TestSameAsksListsLengthsAndOrder(t *testing.T) {
	for _, what := range []string{"the whole", "the example", "records of nothing", "nothing"} {
		start := all()[what]
		n := clone(start, 0)
		for at, l := range lists(&n) {
			for i := range l.value.Len() {
				fewer := clone(start, 0)
				v := lists(&fewer)[at].value
				v.Set(reflect.AppendSlice(v.Slice3(0, i, i), v.Slice(i+1, v.Len())))
				areSame(t, what+" without "+l.path+"["+strconv.Itoa(i)+"]", start, fewer, false)
				for j := range i {
					order := clone(start, 0)
					reflect.Swapper(lists(&order)[at].value.Interface())(i, j)
					areSame(t, what+", "+l.path+" in another order", start, order, equal(start, order))
				}
			}
			more := clone(start, 0)
			v := lists(&more)[at].value
			v.Set(reflect.Append(v, reflect.New(v.Type().Elem()).Elem()))
			areSame(t, what+", "+l.path+" with one more", start, more, false)
			if n := v.Len(); n > 1 {
				v.Index(n - 1).Set(v.Index(n - 2))
				areSame(t, what+", "+l.path+" with its last one twice", start, more, false)
				v.Index(n - 1).Set(v.Index(0))
				areSame(t, what+", "+l.path+" with its first one behind it", start, more, false)
			}
		}
	}
}

// Lists without anything may be nil or empty, each by itself and all at once.
func TestSameOfNilAndEmptyLists(t *testing.T) {
	nils := api.Net{Ports: make([]api.Port, 2), Domains: make([]api.Domain, 2), Floods: make([]api.Flood, 2), Vrfs: make([]api.Vrf, 2)}
	for _, spare := range []int{0, 2} {
		areSame(t, "nothing", api.Net{}, clone(api.Net{}, spare), true)
		areSame(t, "all lists empty", nils, clone(nils, spare), true)
		n := clone(nils, spare)
		for at := range lists(&n) {
			one := clone(nils, spare)
			l := lists(&one)[at]
			if l.value.Len() == 0 {
				l.value.SetZero()
				areSame(t, l.path+" nil", nils, one, true)
				areSame(t, l.path+" nil, the others empty", n, one, true)
			}
		}
	}
	// A list that has nothing is no list that has something.
	for at, l := range lists(&nils) {
		one := clone(nils, 1)
		v := lists(&one)[at].value
		v.Set(v.Slice(0, v.Len()+1))
		areSame(t, l.path+" with something", nils, one, false)
	}
}

// What is a copy is alike, whatever the net.
func TestCopyIsAlike(t *testing.T) {
	for what, n := range all() {
		c := names.Copy(n)
		if !equal(c, n) {
			t.Fatalf("%s: the copy is %.500v", what, c)
		}
		areSame(t, what+" and its copy", c, n, true)
		areSame(t, what+" and its copy's copy", names.Copy(c), n, true)
		if names.Right(c) != names.Right(n) {
			t.Fatalf("%s: the copy may be: %v", what, names.Right(c))
		}
		// With spare room, and with records that have some.
		areSame(t, what+" with spare room and its copy", names.Copy(clone(n, 3)), n, true)
	}
}

// Nothing of what lies behind the ends is handed out.
func TestCopyHasNothingBehindEnds(t *testing.T) {
	for what, n := range all() {
		c := names.Copy(clone(n, 3))
		for _, l := range lists(&c) {
			for i := l.value.Len(); i < l.value.Cap(); i++ {
				if !l.value.Slice(0, l.value.Cap()).Index(i).IsZero() {
					t.Fatalf("%s: something lies behind %s", what, l.path)
				}
			}
		}
	}
}

// What is written into a copy, into its lists and behind their ends, changes nothing of what it was copied from, and the other way round.
func TestCopyIsNew(t *testing.T) {
	for what, start := range all() {
		n := clone(start, 2)
		c := names.Copy(n)
		spoil(&n)
		if !equal(c, start) {
			t.Fatalf("%s: what is written into the net is in its copy", what)
		}
		n = clone(start, 2)
		was := rooms(n)
		c = names.Copy(n)
		spoil(&c)
		if !reflect.DeepEqual(rooms(n), was) {
			t.Fatalf("%s: what is written into the copy is in the net", what)
		}
		c, d := names.Copy(n), names.Copy(n)
		spoil(&c)
		if !equal(d, start) {
			t.Fatalf("%s: two copies share memory", what)
		}
	}
	n := whole()
	c := names.Copy(n)
	c.Devices[0].Name, c.Ports[1].Tagged[0], c.Links[0].A, c.Domains[0].Peers[0] = "x", 99, 99, 99
	c.Statics[0].Mac, c.Floods[0].Addrs[0], c.Vrfs[0].Imports[0], c.Vrfs[0].Exports[1], c.Irbs[0].Net.Bits = 99, 99, 99, 99, 99
	areSame(t, "the net whose copy is written into", n, whole(), true)
	areSame(t, "the copy", c, n, false)
}

// spoil writes into all of a net, and behind its lists' ends, from within outwards.
func spoil(n *api.Net) {
	all := lists(n)
	for i := len(all) - 1; i >= 0; i-- {
		v := all[i].value
		room := v.Slice(0, v.Cap())
		for j := range room.Len() {
			fill(room.Index(j))
		}
	}
}

// No two lists of a copy share memory, spare room neither.
func TestCopysListsAreApart(t *testing.T) {
	shared := []int{1, 2, 3, 4, 5, 6, 7, 8}
	n := api.Net{
		Devices: make([]api.Device, 3),
		Ports:   []api.Port{{Tagged: shared[:2]}, {Tagged: shared[:4]}, {Tagged: shared[2:5]}},
		Domains: []api.Domain{{Peers: shared[4:6]}, {Peers: shared[:0]}},
		Floods:  []api.Flood{{Addrs: []uint32{1, 2}}, {Addrs: []uint32{3}}},
		Vrfs:    []api.Vrf{{Imports: shared[6:], Exports: shared[6:]}, {Imports: shared, Exports: shared}},
	}
	was := clone(n, 0)
	c := names.Copy(n)
	areSame(t, "the copy", c, n, true)
	for at, l := range lists(&c) {
		if l.value.Type() != reflect.TypeOf(shared) && l.value.Type() != reflect.TypeOf([]uint32{}) {
			continue
		}
		c := names.Copy(n)
		v := lists(&c)[at].value
		room := v.Slice(0, v.Cap())
		for i := range room.Len() {
			fill(room.Index(i))
		}
		// Only this one is another one now.
		v.Set(lists(&was)[at].value)
		areSame(t, "the copy but for "+l.path, c, was, true)
	}
	areSame(t, "the net", n, was, true)
}

// Names of a copy lie in memory of their own.
func TestCopysNamesAreNew(t *testing.T) {
	n := whole()
	c := names.Copy(n)
	from := leaves(&n)
	for i, l := range leaves(&c) {
		if l.value.Kind() != reflect.String {
			continue
		}
		if unsafe.StringData(l.value.String()) == unsafe.StringData(from[i].value.String()) {
			t.Errorf("%s lies in the net's memory", l.path)
		}
	}
}
