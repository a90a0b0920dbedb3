package vrfs_test

import (
	"fmt"
	"slices"
	"testing"

	"paling/api"
	"paling/vrfs"
)

// P20.3

// A VRF that imports 1 gets what one of its device exports by 1, and not the other way round.
func TestTheChaptersExample(t *testing.T) {
	n := row(2)
	for i, l := range []api.Line{vrf("sw1", "red", nil, by(1)), vrf("sw1", "blue", by(1), nil), vrf("sw2", "blue", by(1), nil), vrf("sw1", "green", by(2), nil)} {
		var e api.Errno
		if n, e = vrfs.Vrf(n, l); e != ok {
			t.Fatalf("%d: %d", i, e)
		}
	}
	leaks(t, "by 1", n, 0, 1, true)
	leaks(t, "the other way round", n, 1, 0, false)
	leaks(t, "of another device", n, 0, 2, false)
	leaks(t, "by 2", n, 0, 3, false)
}

// Each pair of places of the whole.
func TestLeaksOfTheWhole(t *testing.T) {
	n := whole()
	want := map[[2]int]bool{{2, 0}: true, {4, 5}: true}
	for i := range n.Vrfs {
		want[[2]int{i, i}] = true
	}
	for _, from := range anyPlaces(len(n.Vrfs)) {
		for _, to := range anyPlaces(len(n.Vrfs)) {
			leaks(t, "the whole", n, from, to, want[[2]int{from, to}])
		}
	}
}

// A place below the first, the last one and one past it, for either and for both, of VRFs that all leak into one another; of one place twice that is none, too.
func TestLeaksOfAnyPlace(t *testing.T) {
	for count := range mostVrfs + 1 {
		n := row(1)
		for i := range count {
			n.Vrfs = append(n.Vrfs, api.Vrf{Name: "r" + fmt.Sprint(i), Imports: by(1), Exports: by(1)})
		}
		for _, from := range anyPlaces(count) {
			for _, to := range anyPlaces(count) {
				leaks(t, fmt.Sprint(count, " VRFs"), n, from, to, from >= 0 && from < count && to >= 0 && to < count)
			}
		}
		if count > 0 {
			n.Vrfs = n.Vrfs[:count-1]
			leaks(t, "behind the end", n, count-1, count-1, false)
			leaks(t, "behind the end", n, 0, count-1, false)
			leaks(t, "behind the end", n, count-1, 0, false)
		}
	}
}

// One place twice, whatever the VRF has; another VRF that is like it in all is another one.
func TestLeaksIntoItself(t *testing.T) {
	for _, v := range []api.Vrf{{}, {Name: "red"}, {Imports: by(1)}, {Exports: by(1)}, {Imports: by(1), Exports: by(2)}, {Imports: by(1), Exports: by(1)}} {
		n := row(1)
		n.Vrfs = []api.Vrf{v, clone(v, 0), clone(v, 0)}
		common := len(v.Imports) == 1 && len(v.Exports) == 1 && v.Imports[0] == v.Exports[0]
		for from := range 3 {
			for to := range 3 {
				leaks(t, "alike", n, from, to, from == to || common)
			}
		}
	}
}

// VRFs of unlike Devs that share a number, either way round; of one name, and with places as their devices have.
func TestLeaksOfUnlikeDevices(t *testing.T) {
	n := row(3)
	for dev := range 3 {
		for _, word := range []string{"red", "blue"} {
			n.Vrfs = append(n.Vrfs, api.Vrf{Dev: dev, Name: word, Imports: by(1, 2), Exports: by(1, 2)})
		}
	}
	for _, order := range [][]int{{0, 1, 2, 3, 4, 5}, {0, 2, 4, 1, 3, 5}, {5, 0, 3, 4, 1, 2}} {
		m := n
		m.Vrfs = nil
		for _, at := range order {
			m.Vrfs = append(m.Vrfs, n.Vrfs[at])
		}
		for from, a := range m.Vrfs {
			for to, b := range m.Vrfs {
				leaks(t, fmt.Sprint(order), m, from, to, a.Dev == b.Dev)
			}
		}
	}
	// Devices of one name are two.
	n.Devices[1].Name = "sw1"
	leaks(t, "devices of one name", n, 0, 2, false)
}

// Exports of the one and Imports of the other with none, one and many numbers in common; what the other one exports, and the one imports, bears on nothing.
func TestLeaksByTargets(t *testing.T) {
	long := func(from int) []int {
		var l []int
		for i := range 16 {
			l = append(l, from+i)
		}
		return l
	}
	for what, x := range map[string]struct {
		exports, imports []int
		want             bool
	}{
		"none at all":                   {nil, nil, false},
		"empty lists":                   {by(), by(), false},
		"no Imports":                    {by(1, 2), nil, false},
		"no Exports":                    {nil, by(1, 2), false},
		"one of one":                    {by(1), by(1), true},
		"one of one, the greatest":      {by(mostTarget), by(mostTarget), true},
		"one beside another":            {by(1), by(2), false},
		"one beside another, reversed":  {by(2), by(1), false},
		"256 beside 1":                  {by(256, 257), by(1), false},
		"the first of both":             {by(1, 2, 3), by(1, 4, 5), true},
		"the last of both":              {by(1, 2, 9), by(3, 4, 9), true},
		"the first and the last":        {by(5, 6, 7), by(1, 2, 5), true},
		"the last and the first":        {by(1, 2, 5), by(5, 6, 7), true},
		"one between":                   {by(1, 5, 9), by(2, 5, 8), true},
		"between one another":           {by(1, 3, 5, 7), by(2, 4, 6, 8), false},
		"many":                          {by(1, 2, 3, 4), by(2, 3, 4, 5), true},
		"all":                           {by(1, 2, 3, 4), by(1, 2, 3, 4), true},
		"sixteen, all":                  {long(1), long(1), true},
		"sixteen, the last":             {long(1), long(16), true},
		"sixteen, the first":            {long(16), long(1), true},
		"sixteen, none":                 {long(1), long(17), false},
		"behind the end of the Exports": {by(1, 2)[:1], by(2), false},
		"behind the end of the Imports": {by(2), by(1, 2)[:1], false},
	} {
		for _, rest := range [][]int{nil, by(1), by(2), by(100), by(1, 2, 3, 4, 5, mostTarget)} {
			n := row(1)
			n.Vrfs = []api.Vrf{{Name: "x", Imports: rest, Exports: x.exports}, {Name: "y", Imports: x.imports, Exports: rest}, {Name: "z", Imports: rest, Exports: rest}}
			leaks(t, what, n, 0, 1, x.want)
			leaks(t, what+", turned round", n, 1, 0, len(rest) > 0)
			slices.Reverse(n.Vrfs)
			leaks(t, what+", from behind", n, 2, 1, x.want)
			leaks(t, what+", from behind, turned round", n, 1, 2, len(rest) > 0)
		}
	}
}

// All lists of four targets or fewer, of one number up to four, of either VRF.
func TestLeaksOfAllShortLists(t *testing.T) {
	list := func(bits int) []int {
		var l []int
		for i := range 4 {
			if bits>>i&1 == 1 {
				l = append(l, i+1)
			}
		}
		return l
	}
	n := row(1)
	n.Vrfs = make([]api.Vrf, 2)
	for bits := range 1 << 16 {
		n.Vrfs[0].Exports, n.Vrfs[1].Imports = list(bits&15), list(bits>>4&15)
		n.Vrfs[0].Imports, n.Vrfs[1].Exports = list(bits>>8&15), list(bits>>12&15)
		leaks(t, "there", n, 0, 1, bits&15&(bits>>4) != 0)
		leaks(t, "back", n, 1, 0, bits>>8&15&(bits>>12) != 0)
	}
}

// Of a net that may not be nothing leaks, not into itself either.
func TestLeaksOfWrongNets(t *testing.T) {
	nothing := func(what string, n api.Net) {
		t.Helper()
		for from := -1; from <= 20; from++ {
			for to := -1; to <= 20; to++ {
				leaks(t, what, n, from, to, false)
			}
		}
	}
	for _, f := range faults() {
		n := whole()
		f.turn(&n)
		nothing(f.what, n)
	}
	nothing("17 VRFs", filled(17))
	nothing("a VRF of nothing", api.Net{Vrfs: make([]api.Vrf, 1)})
	nothing("nothing", api.Net{})
}

// Each place of nets that are drawn, held against what the chapter says; a VRF leaks into itself.
func TestLeaksAsTheChapterSays(t *testing.T) {
	both, there, none := 0, 0, 0
	for seed := range 500 {
		n := drawn(draws(uint64(3000 + seed)))
		for from := -1; from <= len(n.Vrfs); from++ {
			for to := -1; to <= len(n.Vrfs); to++ {
				want := saidLeaks(n, from, to)
				leaks(t, fmt.Sprint("seed ", seed), n, from, to, want)
				switch back := saidLeaks(n, to, from); {
				case want && back && from != to:
					both++
				case want && from != to:
					there++
				case !want:
					none++
				}
			}
		}
		for at := range n.Vrfs {
			leaks(t, fmt.Sprint("seed ", seed), n, at, at, true)
		}
	}
	if both < 300 || there < 300 || none < 300 {
		t.Errorf("%d leak both ways, %d one way, %d not", both, there, none)
	}
	for what, n := range goods() {
		for _, from := range anyPlaces(len(n.Vrfs)) {
			for _, to := range anyPlaces(len(n.Vrfs)) {
				leaks(t, what, n, from, to, saidLeaks(n, from, to))
			}
		}
	}
}
