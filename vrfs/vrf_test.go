package vrfs_test

import (
	"fmt"
	"slices"
	"strings"
	"testing"

	"paling/api"
	"paling/stmt"
	"paling/vrfs"
)

// P20.1

// Each field of the VRF that is put, behind all others, in a net written out, of lines read from texts.
func TestVrfIsPut(t *testing.T) {
	n := api.Net{Devices: []api.Device{{Name: "a"}, {Name: "b"}, {Name: "c"}}}
	want := []api.Vrf{
		{Row: 40, Dev: 1, Name: "red", Imports: by(1, 2), Exports: by(3)},
		{Row: 41, Dev: 0, Name: "red", Exports: by(4, 5, 65535)},
		{Row: 42, Dev: 1, Name: "blue", Imports: by(6)},
		{Row: 43, Dev: 2, Name: "r2d2"},
	}
	for i, text := range []string{"vrf b red 1,2 3", "vrf a red - 4,5,65535", "vrf b blue 6 -", "vrf c r2d2 - -"} {
		l, e := stmt.Read(strings.Fields(text), 40+i)
		if e != ok {
			t.Fatal(e)
		}
		if n, e = vrfs.Vrf(n, l); e != ok {
			t.Fatalf("%d: %d", i, e)
		}
		if !equal(n.Vrfs, want[:i+1]) {
			t.Errorf("%d: %+v, not %+v", i, n.Vrfs, want[:i+1])
		}
	}
}

// Each device of a net in its turn, in either order, and several of one device.
func TestVrfOfEachDevice(t *testing.T) {
	up, down := row(8), row(8)
	for i := range 8 {
		up = makesVrf(t, "upwards", up, vrf(up.Devices[i].Name, "red", by(i+1), by(i+2)), i)
		down = makesVrf(t, "downwards", down, vrf(down.Devices[7-i].Name, "red", nil, by(i+1)), 7-i)
	}
	for i := range 8 {
		up = makesVrf(t, "a second one", up, vrf(up.Devices[i].Name, "blue", nil, nil), i)
	}
	for i, word := range []string{"a", "b", "c", "d"} {
		makesVrf(t, "the whole", whole(), vrf(word, "black", by(1, 2), by(2, 3)), i)
	}
	n := row(1)
	for i := range mostVrfs {
		n = makesVrf(t, "of one device", n, vrf("sw1", "r"+fmt.Sprint(i), nil, nil), 0)
	}
}

// The row is the line's, whatever it is.
func TestVrfHasTheLinesRow(t *testing.T) {
	for _, at := range []int{least, -1, 0, 1, 12, 400, 401, 1 << 32, most} {
		l := vrf("c", "blue", by(1), nil)
		l.Row = at
		if got := makesVrf(t, "a row", whole(), l, 2); got.Vrfs[6].Row != at {
			t.Errorf("the row is %d, not %d", got.Vrfs[6].Row, at)
		}
	}
}

// Imports and Exports of none, one and many numbers, both, one of them, alike and unlike; and those that no line has.
func TestVrfOfTargets(t *testing.T) {
	var sixteen, last, seventeen []int
	for i := range 17 {
		seventeen = append(seventeen, 10*i+1)
	}
	sixteen = seventeen[:16:16]
	for i := range 16 {
		last = append(last, mostTarget-15+i)
	}
	lists := [][]int{nil, {}, {1}, {2}, {mostTarget}, {1, mostTarget}, {1, 2, 3}, {5, 70, 900, 4000, 50000}, sixteen, last}
	for _, imports := range lists {
		for _, exports := range lists {
			makesVrf(t, "targets", whole(), vrf("d", "red", imports, exports), 3)
		}
	}
	for _, wrong := range [][]int{{0}, {-1}, {mostTarget + 1}, {most}, {least}, {0, 1}, {2, 1}, {1, 1}, {1, 3, 2}, {1, mostTarget + 1}, seventeen} {
		for _, right := range lists {
			refuses(t, "imports", whole(), vrf("d", "red", wrong, right), arg)
			refuses(t, "exports", whole(), vrf("d", "red", right, wrong), arg)
		}
	}
	// What lies behind the end of a list is none of it.
	makesVrf(t, "behind the end", whole(), vrf("d", "red", by(1, 2, 0)[:2], by(7, 6, 5)[:1]), 3)
}

// Names of one byte to twelve; those that no line has.
func TestVrfOfNames(t *testing.T) {
	for _, word := range []string{"a", "z", "a0", "z9", "x", "abcdefghijkl", "a23456789012", "vrf", "c", "p1"} {
		makesVrf(t, "a name", whole(), vrf("c", word, nil, nil), 2)
	}
	for _, word := range []string{"", "A", "0", "9a", "a.b", "a/b", "a b", "-", "abcdefghijklm", "\x00", "red\n"} {
		refuses(t, "a name that may not be", whole(), vrf("c", word, nil, nil), arg)
	}
}

// A VRF of that name of the device, first, between and last, with those targets and with others.
func TestVrfTwice(t *testing.T) {
	n := whole()
	for _, v := range n.Vrfs {
		l := vrf(n.Devices[v.Dev].Name, v.Name, v.Imports, v.Exports)
		refuses(t, "those targets", n, l, twice)
		l.Row = v.Row
		refuses(t, "that row", n, l, twice)
		refuses(t, "others", n, vrf(l.Dev, l.Name, by(77), by(78)), twice)
		refuses(t, "none", n, vrf(l.Dev, l.Name, nil, nil), twice)
	}
	n = makesVrf(t, "one", whole(), vrf("d", "red", by(1), by(2)), 3)
	refuses(t, "it again", n, vrf("d", "red", by(1), by(2)), twice)
	refuses(t, "it again, of other targets", n, vrf("d", "red", nil, nil), twice)
	n.Vrfs = n.Vrfs[:6]
	makesVrf(t, "one behind the end", n, vrf("d", "red", by(1), by(2)), 3)
	n.Vrfs[3].Name = "grey"
	makesVrf(t, "a name that is gone", n, vrf("d", "blue", nil, nil), 3)
	refuses(t, "a name that came", n, vrf("d", "grey", nil, nil), twice)
}

// A VRF of that name of another device alone, ahead and behind, and one of another name of the device: neither stands in the way.
func TestVrfBesideOthers(t *testing.T) {
	for has := range 4 {
		n := row(4)
		n.Vrfs = []api.Vrf{{Row: 1, Dev: has, Name: "red", Imports: by(1), Exports: by(2)}}
		for dev, d := range n.Devices {
			if dev == has {
				refuses(t, "its own one", n, vrf(d.Name, "red", by(1), by(2)), twice)
			} else {
				makesVrf(t, "another device's", n, vrf(d.Name, "red", by(1), by(2)), dev)
			}
			for _, word := range []string{"re", "redd", "rec", "sed", "rad", "r", "blue"} {
				makesVrf(t, "another name", n, vrf(d.Name, word, by(1), by(2)), dev)
			}
		}
	}
	makesVrf(t, "a name that b, c and a have", whole(), vrf("d", "red", nil, nil), 3)
	makesVrf(t, "a name that a and d have", whole(), vrf("b", "blue", nil, nil), 1)
	makesVrf(t, "a name that c has", whole(), vrf("a", "green", nil, nil), 0)
	makesVrf(t, "a name that the device has", whole(), vrf("a", "a", nil, nil), 0)
	makesVrf(t, "a name that a port has", whole(), vrf("a", "p1", nil, nil), 0)
}

// Fifteen VRFs, sixteen and seventeen; and from none on, one after another.
func TestVrfAtTheLimit(t *testing.T) {
	for count := range mostVrfs {
		makesVrf(t, fmt.Sprint(count, " VRFs"), filled(count), vrf("sw1", "red", by(1), nil), 0)
		makesVrf(t, fmt.Sprint(count, " VRFs"), filled(count), vrf("sw2", "red", nil, by(1)), 1)
	}
	full := filled(mostVrfs)
	refuses(t, "16 VRFs", full, vrf("sw1", "red", by(1), nil), big)
	refuses(t, "16 VRFs", full, vrf("sw2", "red", nil, nil), big)
	refuses(t, "16 VRFs, a name of the other device", full, vrf("sw1", "r1", nil, nil), big)
	refuses(t, "16 VRFs, a name of the device", full, vrf("sw1", "r0", nil, nil), twice)
	refuses(t, "16 VRFs, the last name", full, vrf("sw2", "r15", nil, nil), twice)
	full.Vrfs = full.Vrfs[:15]
	makesVrf(t, "15 of 16 VRFs", full, vrf("sw2", "r15", nil, nil), 1)
	for _, count := range []int{17, 18, 32, 100} {
		refuses(t, fmt.Sprint(count, " VRFs"), filled(count), vrf("sw1", "red", nil, nil), arg)
		refuses(t, fmt.Sprint(count, " VRFs"), filled(count), vrf("z", "red", nil, nil), arg)
	}
	n := filled(0)
	for i := range mostVrfs {
		n = makesVrf(t, fmt.Sprint("the VRF ", i), n, vrf(n.Devices[i/9].Name, "r"+fmt.Sprint(i), by(i+1), by(i+1)), i/9)
	}
	refuses(t, "the seventeenth", n, vrf("sw1", "r16", nil, nil), big)
}

// Of several devices of one name the first one is taken; what lies behind the end of a list is none.
func TestVrfOfTheFirstOfAName(t *testing.T) {
	n := row(3)
	n.Devices[2].Name = "sw2"
	n.Vrfs = []api.Vrf{{Dev: 2, Name: "red"}}
	n = makesVrf(t, "the first sw2", n, vrf("sw2", "red", nil, nil), 1)
	refuses(t, "the first sw2 again", n, vrf("sw2", "red", nil, nil), twice)
	n = filled(4)
	n.Devices, n.Domains = n.Devices[:1], n.Domains[:2]
	n.Vrfs = slices.Delete(slices.Delete(n.Vrfs, 3, 4), 1, 2)
	refuses(t, "a device behind the end", n, vrf("sw2", "red", nil, nil), name)
	makesVrf(t, "the last device", n, vrf("sw1", "red", nil, nil), 0)
}

// A VRF has nothing of a domain: a net without one takes it, and of one with interfaces none changes.
func TestVrfAsksForNoDomain(t *testing.T) {
	makesVrf(t, "a device alone", api.Net{Devices: []api.Device{{Name: "a"}}}, vrf("a", "red", nil, nil), 0)
	n := row(8)
	n.Devices[7].Vtep = 9
	makesVrf(t, "the last device", n, vrf("sw8", "red", nil, nil), 7)
}
