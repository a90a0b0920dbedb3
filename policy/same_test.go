package policy_test

import (
	"slices"
	"strconv"
	"strings"
	"testing"

	"paling/api"
	"paling/policy"
)

// P14.3

// turns are ways to make a tenant another one, in one field alone or in one beside its Row, by names.
func turns() map[string]func(t *api.Tenant) {
	return map[string]func(t *api.Tenant){
		"Name":                  func(t *api.Tenant) { t.Name += "x" },
		"Name's first":          func(t *api.Tenant) { t.Name = "x" + t.Name },
		"a Dev more":            func(t *api.Tenant) { t.Devs = append(slices.Clone(t.Devs), "") },
		"a Port more":           func(t *api.Tenant) { t.Ports = append(slices.Clone(t.Ports), "") },
		"a Dev and a Port more": func(t *api.Tenant) { t.Devs, t.Ports = more(t.Devs, "a"), more(t.Ports, "b") },
		"the first Dev":         func(t *api.Tenant) { t.Devs = other(t.Devs, 0) },
		"the first Port":        func(t *api.Tenant) { t.Ports = other(t.Ports, 0) },
		"the middle Dev":        func(t *api.Tenant) { t.Devs = other(t.Devs, len(t.Devs)/2) },
		"the middle Port":       func(t *api.Tenant) { t.Ports = other(t.Ports, len(t.Ports)/2) },
		"the last Dev":          func(t *api.Tenant) { t.Devs = other(t.Devs, len(t.Devs)-1) },
		"the last Port":         func(t *api.Tenant) { t.Ports = other(t.Ports, len(t.Ports)-1) },
		"Row and Name":          func(t *api.Tenant) { t.Row, t.Name = t.Row+1, t.Name+"x" },
		"Row and the last Dev":  func(t *api.Tenant) { t.Row, t.Devs = t.Row-1, other(t.Devs, len(t.Devs)-1) },
		"Row and the last Port": func(t *api.Tenant) { t.Row, t.Ports = t.Row+7, other(t.Ports, len(t.Ports)-1) },
		"the Name and a Dev":    func(t *api.Tenant) { t.Name, t.Devs = t.Name+"x", other(t.Devs, 0) },
	}
}

// more is a list with texts behind it.
func more(l []string, texts ...string) []string { return append(slices.Clone(l), texts...) }

// other is a list with another text at a place, or with one where it has none.
func other(l []string, place int) []string {
	if len(l) == 0 {
		return []string{"x"}
	}
	l = slices.Clone(l)
	l[place] += "x"
	return l
}

// mixed are tenants that may be, and tenants that may not be.
func mixed() []api.Tenant {
	var l []api.Tenant
	for i, g := range goods {
		l = append(l, at(i+1, g.tenant))
	}
	return append(l,
		api.Tenant{},
		api.Tenant{Row: -3, Name: "A b"},
		api.Tenant{Row: 9, Devs: []string{"#", ""}, Ports: []string{"\x00"}},
		api.Tenant{Row: 10, Name: "a", Devs: []string{"", "", ""}},
		api.Tenant{Row: 11, Name: "a", Ports: []string{"", "", ""}},
		many(20, 30),
	)
}

// copies are tenants of memory of their own.
func copies(l []api.Tenant) []api.Tenant {
	l = slices.Clone(l)
	for i := range l {
		l[i].Name, l[i].Devs, l[i].Ports = strings.Clone(l[i].Name), slices.Clone(l[i].Devs), slices.Clone(l[i].Ports)
	}
	return l
}

// areSame asks either way round whether lists are the same but for Rows.
func areSame(t *testing.T, what string, a, b []api.Tenant, want bool) {
	t.Helper()
	if policy.Same(a, b) != want || policy.Same(b, a) != want {
		t.Fatalf("%s: Same of %d and %d tenants is %v, and the other way round %v", what, len(a), len(b), policy.Same(a, b), policy.Same(b, a))
	}
}

func TestSameOfNoTenants(t *testing.T) {
	empty := make([]api.Tenant, 0, 4)
	areSame(t, "nil and nil", nil, nil, true)
	areSame(t, "nil and an empty list", nil, empty, true)
	areSame(t, "two empty lists", empty, []api.Tenant{}, true)
	for _, one := range mixed() {
		areSame(t, "nil and a tenant", nil, []api.Tenant{one}, false)
		areSame(t, "an empty list and a tenant", empty, []api.Tenant{one}, false)
	}
	// What lies behind a list's length is none of it.
	areSame(t, "two lists of other tenants behind their ends", mixed()[:0], mixed()[3:3], true)
}

func TestSameOfAsManyAlike(t *testing.T) {
	all := mixed()
	for n := range len(all) + 1 {
		areSame(t, "a list and itself", all[:n], all[:n], true)
		areSame(t, "a list and a copy", all[:n], copies(all[:n]), true)
		areSame(t, "two ends of a list", copies(all)[n:], all[n:], true)
	}
	for _, one := range all {
		areSame(t, "a tenant and a copy", []api.Tenant{one}, copies([]api.Tenant{one}), true)
	}
	tooMany := slices.Repeat(all, 100)
	areSame(t, "more tenants than may be", tooMany, copies(tooMany), true)
}

func TestSameOfMoreAndFewer(t *testing.T) {
	all := mixed()
	for n := range len(all) + 1 {
		for m := range len(all) + 1 {
			areSame(t, "so many of a list's tenants", all[:n], all[:m], n == m)
			if n != m {
				areSame(t, "so many of a list's last tenants", all[n:], all[m:], false)
			}
			// Each is the same, so that their number alone tells them apart.
			areSame(t, "so many of a tenant", slices.Repeat(all[:1], n), slices.Repeat(all[:1], m), n == m)
			areSame(t, "so many tenants of nothing", make([]api.Tenant, n), make([]api.Tenant, m), n == m)
		}
	}
	for i := range all {
		areSame(t, "a list without tenant "+strconv.Itoa(i), all, slices.Delete(copies(all), i, i+1), false)
		areSame(t, "a list with one tenant more at "+strconv.Itoa(i), all, slices.Insert(copies(all), i, all[i]), false)
	}
}

// Tenants whose Rows differ: of one, in each place, and of all.
func TestSameAsksNothingOfRows(t *testing.T) {
	all := mixed()
	for _, n := range rowNumbers {
		for i := range all {
			turned := copies(all)
			turned[i].Row = n
			areSame(t, "another Row in place "+strconv.Itoa(i), all, turned, true)
			areSame(t, "another Row alone", all[i:i+1], turned[i:i+1], true)
		}
		turned := copies(all)
		for i := range turned {
			turned[i].Row = n - i
		}
		areSame(t, "other Rows in all places", all, turned, true)
	}
}

// Tenants that differ in one field alone: in the first, in each middle and in the last place, and alone.
func TestSameAsksEachOtherField(t *testing.T) {
	all := mixed()
	for what, turn := range turns() {
		for i := range all {
			turned := copies(all)
			turn(&turned[i])
			areSame(t, what+" in place "+strconv.Itoa(i), all, turned, false)
			areSame(t, what+" alone", all[i:i+1], turned[i:i+1], false)
			areSame(t, what+" in the last place", all[:i+1], turned[:i+1], false)
			areSame(t, what+" in the first place", all[i:], turned[i:], false)
			// With other Rows, too, it is not the same.
			for j := range turned {
				turned[j].Row += 5
			}
			areSame(t, what+" and Rows in place "+strconv.Itoa(i), all, turned, false)
		}
	}
}

// Each name of each list of a long one, and lists that are one another's beginning.
func TestSameAsksEachName(t *testing.T) {
	for n := 1; n <= 20; n++ {
		one := many(n, n)
		for i := range n {
			dev, port := one, one
			dev.Devs, port.Ports = other(one.Devs, i), other(one.Ports, i)
			areSame(t, "another Dev in place "+strconv.Itoa(i), []api.Tenant{one}, []api.Tenant{dev}, false)
			areSame(t, "another Port in place "+strconv.Itoa(i), []api.Tenant{one}, []api.Tenant{port}, false)
			areSame(t, "another Dev, or another Port", []api.Tenant{dev}, []api.Tenant{port}, false)
			areSame(t, "fewer ports", []api.Tenant{one}, []api.Tenant{many(i, i)}, false)
			areSame(t, "fewer Devs", []api.Tenant{one}, []api.Tenant{many(i, n)}, false)
			areSame(t, "fewer Ports", []api.Tenant{one}, []api.Tenant{many(n, i)}, false)
		}
	}
	a, b := api.Tenant{Name: "a", Devs: []string{"a"}, Ports: []string{"b"}}, api.Tenant{Name: "a", Devs: []string{"b"}, Ports: []string{"a"}}
	areSame(t, "Devs for Ports", []api.Tenant{a}, []api.Tenant{b}, false)
	// Texts are held against one another byte by byte.
	for _, pair := range [][2]string{{"a", "A"}, {"a", ""}, {"a", "b"}, {"a", "a "}, {"a1", "a01"}, {"ab", "ba"}, {"\u00e9", "e\u0301"}, {"\xff", "\xfe"}, {"", "\x00"}} {
		x, y := pair[:1], pair[1:]
		areSame(t, "another Name", []api.Tenant{{Name: x[0], Devs: x, Ports: x}}, []api.Tenant{{Name: y[0], Devs: x, Ports: x}}, false)
		areSame(t, "another Dev", []api.Tenant{{Name: x[0], Devs: x, Ports: x}}, []api.Tenant{{Name: x[0], Devs: y, Ports: x}}, false)
		areSame(t, "another Port", []api.Tenant{{Name: x[0], Devs: x, Ports: x}}, []api.Tenant{{Name: x[0], Devs: x, Ports: y}}, false)
	}
	// Their rows' words would be the same.
	a, b = api.Tenant{Name: "a", Devs: []string{"a.b"}, Ports: []string{"c"}}, api.Tenant{Name: "a", Devs: []string{"a"}, Ports: []string{"b.c"}}
	areSame(t, "another dot", []api.Tenant{a}, []api.Tenant{b}, false)
}

func TestSameAsksTheOrder(t *testing.T) {
	all := mixed()
	for i := range all {
		for j := range i {
			turned := copies(all)
			turned[i], turned[j] = turned[j], turned[i]
			areSame(t, "tenants "+strconv.Itoa(i)+" and "+strconv.Itoa(j)+" exchanged", all, turned, false)
		}
	}
	two := all[:2]
	areSame(t, "as many tenants, each of which is in the other list", []api.Tenant{two[0], two[0], two[1]}, []api.Tenant{two[0], two[1], two[1]}, false)
	// Within a tenant, too.
	l := goods[1].tenant
	turned := copies([]api.Tenant{l})
	slices.Reverse(turned[0].Devs)
	slices.Reverse(turned[0].Ports)
	areSame(t, "ports in another order", []api.Tenant{l}, turned, false)
}

// Lists within tenants that have nothing may be nil or empty.
func TestSameOfTenantsWithEmptyLists(t *testing.T) {
	lists := [][]string{nil, {}, make([]string, 0, 3), []string{"x"}[:0]}
	for _, a := range lists {
		for _, b := range lists {
			areSame(t, "nil and empty lists within", []api.Tenant{{Name: "a", Devs: a, Ports: b}}, []api.Tenant{{Name: "a", Devs: b, Ports: a}}, true)
		}
	}
}

// What was handed in reads afterwards as it did, what lies behind the lists' ends too.
func TestSameLeavesWhatIsHandedIn(t *testing.T) {
	a, b := roomy(mixed()), roomy(mixed())
	for i := range b {
		b[i].Row += 50
	}
	wasA, wasB := rooms(a), rooms(b)
	n := len(a) - 2
	for m := range n + 1 {
		policy.Same(a[:n], b[:m])
		policy.Same(b[:m], a[:n])
	}
	for _, turn := range turns() {
		c := roomy(mixed())
		turn(&c[n/2])
		was := rooms(c)
		policy.Same(a[:n], c[:n])
		policy.Same(c[:n], b[:n])
		if !agree(rooms(c), was) {
			t.Errorf("what is handed in is changed: %+v", c)
		}
	}
	if !agree(rooms(a), wasA) || !agree(rooms(b), wasB) {
		t.Errorf("what is handed in is changed: %+v, %+v", a, b)
	}
}
