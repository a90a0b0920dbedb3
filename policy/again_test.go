package policy_test

import (
	"slices"
	"strings"
	"testing"

	"paling/api"
	"paling/policy"
)

// P14.4

// counted are tenants with the Rows 1, 2 and so on.
func counted(l []api.Tenant) []api.Tenant {
	l = slices.Clone(l)
	for i := range l {
		l[i].Row = i + 1
	}
	return l
}

// isReadAgain asks that tenants are written as a text that is read as they are, with the Rows 1, 2 and so on, and written as that text.
func isReadAgain(t *testing.T, l []api.Tenant) {
	t.Helper()
	b, e := policy.Text(l)
	if e != api.OK {
		t.Fatalf("Text of %d tenants: %d", len(l), e)
	}
	again, row, e := policy.Read(b)
	if e != api.OK || row != 0 || !agree(again, counted(l)) || !policy.Same(again, l) {
		t.Fatalf("%.300q is read as %.300v, %d, %d; not %.300v", b, again, row, e, counted(l))
	}
	isText(t, again, string(b))
}

func TestTenantsAreReadAgain(t *testing.T) {
	isReadAgain(t, nil)
	for _, g := range goods {
		for _, row := range rowNumbers {
			isReadAgain(t, []api.Tenant{at(row, g.tenant)})
			for _, h := range goods {
				isReadAgain(t, []api.Tenant{at(row, g.tenant), at(3, h.tenant)})
				isReadAgain(t, []api.Tenant{at(row, h.tenant), at(row, g.tenant), at(row, h.tenant)})
			}
		}
		// As many as may be.
		isReadAgain(t, slices.Repeat([]api.Tenant{g.tenant}, mostTenants))
	}
	for n := range mostTenants + 1 {
		l := some(n)
		isReadAgain(t, l)
		slices.Reverse(l)
		isReadAgain(t, l)
	}
}

// Tenants of each count of ports, and of names of each length.
func TestTenantsOfEachSizeAreReadAgain(t *testing.T) {
	for n := 1; n <= mostPorts; n++ {
		isReadAgain(t, []api.Tenant{many(n, n)})
		var all []api.Tenant
		for i := range mostTenants {
			all = append(all, many(min(n+i, mostPorts), min(n+i, mostPorts)))
		}
		isReadAgain(t, all)
	}
	for i := 1; i <= mostName; i++ {
		for j := 1; j <= mostName; j++ {
			for k := 1; k <= mostName; k++ {
				isReadAgain(t, []api.Tenant{{Name: longest[:i], Devs: []string{"a", longest[:j]}, Ports: []string{longest[:k], "a"}}})
			}
		}
	}
	for c := byte('a'); c <= 'z'; c++ {
		name := string(rune(c))
		isReadAgain(t, []api.Tenant{{Name: name, Devs: []string{name + "0"}, Ports: []string{"z" + name}}})
	}
	for c := byte('0'); c <= '9'; c++ {
		name := "a" + string(rune(c))
		isReadAgain(t, []api.Tenant{{Name: name, Devs: []string{name + "b"}, Ports: []string{name}}})
	}
}

// isWrittenAs asks that a text is read and written as another one, which is read as the same tenants, and written as it was.
func isWrittenAs(t *testing.T, s, want string) {
	t.Helper()
	tenants, row, e := policy.Read([]byte(s))
	if e != api.OK {
		t.Fatalf("%.300q: %d, %d", s, row, e)
	}
	isText(t, tenants, want)
	again, row, e := policy.Read([]byte(want))
	if e != api.OK || row != 0 || !policy.Same(again, tenants) || !agree(again, counted(tenants)) {
		t.Fatalf("%.300q is read again as %.300v, %d, %d; not %.300v", want, again, row, e, tenants)
	}
	isText(t, again, want)
}

func TestTextsAreWrittenAgain(t *testing.T) {
	for _, c := range [][2]string{
		{"", ""},
		{"\n", ""},
		{" \t\n# nothing\n\n#", ""},
		{"tenant red sw1.p1 sw2.p4", "tenant red sw1.p1 sw2.p4\n"},
		{"tenant red sw1.p1 sw2.p4\n", "tenant red sw1.p1 sw2.p4\n"},
		{"\n\n \ttenant\t\tred  sw1.p1 # red's\n\n", "tenant red sw1.p1\n"},
		{"tenant a a.b#\n#tenant b b.c\ntenant c c.d", "tenant a a.b\ntenant c c.d\n"},
		{"tenant b a.b\ntenant a a.b\ntenant b a.b\n", "tenant b a.b\ntenant a a.b\ntenant b a.b\n"},
		{strings.Repeat("\n# r\ntenant a b.c", mostTenants), strings.Repeat("tenant a b.c\n", mostTenants)},
	} {
		isWrittenAs(t, c[0], c[1])
	}
	var rows []string
	for _, g := range goods {
		rows = append(rows, g.row)
	}
	for n := range len(rows) + 1 {
		want := strings.Join(append(slices.Clone(rows[:n]), ""), "\n")
		isWrittenAs(t, want, want)
		for _, between := range []string{"\n", "\n\n", "\n \t\n#\n", " # r\n", "#\x00\n\n", "\t\n"} {
			s := strings.Join(rows[:n], between)
			isWrittenAs(t, s, want)
			isWrittenAs(t, s+between, want)
			isWrittenAs(t, "# r\n"+s, want)
			isWrittenAs(t, strings.ReplaceAll(" "+s, " ", " \t "), want)
		}
	}
}
