package policy_test

import (
	"bytes"
	"math"
	"slices"
	"strconv"
	"strings"
	"testing"

	"paling/api"
	"paling/policy"
)

// Numbers that a Row may be, for what asks nothing of it.
var rowNumbers = []int{0, 1, -1, 2, 77, 400, 401, math.MaxInt, math.MinInt}

// many is a tenant of so many Devs and so many Ports, all of which are names.
func many(devs, ports int) api.Tenant {
	return api.Tenant{Row: 1, Name: "a", Devs: slices.Repeat([]string{"d"}, devs), Ports: slices.Repeat([]string{"p"}, ports)}
}

// isRight asks whether a tenant may be, whatever its Row.
func isRight(t *testing.T, one api.Tenant, want bool) {
	t.Helper()
	for _, row := range rowNumbers {
		if got := policy.Right(at(row, one)); got != want {
			t.Fatalf("Right of %.300v: %v", at(row, one), got)
		}
	}
}

// rightHeld holds Right against what a row with the tenant's words is read as.
func rightHeld(t *testing.T, one api.Tenant) {
	t.Helper()
	want := false
	if len(one.Devs) == len(one.Ports) {
		words := []string{"tenant", one.Name}
		for i, dev := range one.Devs {
			words = append(words, dev+"."+one.Ports[i])
		}
		read, e := saidTenant(words, one.Row)
		want = e == api.OK && equal(read, one)
	}
	isRight(t, one, want)
}

// wrong is a tenant that may not be.
type wrong struct {
	why    string
	tenant api.Tenant
}

// wrongs are tenants that may not be.
func wrongs() []wrong {
	l := []wrong{
		{"nothing", api.Tenant{}},
		{"no port", many(0, 0)},
		{"no Ports", many(1, 0)},
		{"no Devs", many(0, 1)},
		{"more Devs", many(2, 1)},
		{"more Ports", many(1, 2)},
		{"17 ports", many(mostPorts+1, mostPorts+1)},
		{"17 Devs", many(mostPorts+1, mostPorts)},
		{"17 Ports", many(mostPorts, mostPorts+1)},
		{"very many ports", many(1<<16, 1<<16)},
		{"halves of other ports", api.Tenant{Name: "a", Devs: []string{"a.b"}, Ports: []string{"c"}}},
	}
	for _, name := range noNames {
		why := "the text " + strconv.Quote(name)
		for i, n := range []int{1, 3, mostPorts} {
			one := many(n, n)
			one.Name = name
			dev, port := many(n, n), many(n, n)
			dev.Devs[[]int{0, 1, mostPorts - 1}[i]] = name
			port.Ports[[]int{0, 1, mostPorts - 1}[i]] = name
			l = append(l, wrong{why + " as the Name", one}, wrong{why + " in Devs", dev}, wrong{why + " in Ports", port})
		}
	}
	return l
}

// some are so many tenants, each with another Name.
func some(count int) []api.Tenant {
	var l []api.Tenant
	for i := range count {
		one := goods[i%len(goods)].tenant
		one.Row, one.Name = i+1, "t"+strconv.Itoa(i)
		l = append(l, one)
	}
	return l
}

// saidText is the text of tenants that may be, by the chapter's words.
func saidText(l []api.Tenant) string {
	var s strings.Builder
	for _, one := range l {
		s.WriteString("tenant " + one.Name)
		for i, dev := range one.Devs {
			s.WriteString(" " + dev + "." + one.Ports[i])
		}
		s.WriteString("\n")
	}
	return s.String()
}

// isText asks that tenants are written as a text.
func isText(t *testing.T, l []api.Tenant, want string) {
	t.Helper()
	if b, e := policy.Text(l); e != api.OK || string(b) != want {
		t.Fatalf("Text of %d tenants: %d bytes %.300q, %d; not %d bytes %.300q", len(l), len(b), b, e, len(want), want)
	}
}

// isRefused asks that tenants are refused, and that no byte goes with it, behind the bytes' end neither.
func isRefused(t *testing.T, what string, l []api.Tenant, want api.Errno) {
	t.Helper()
	if b, e := policy.Text(l); e != want || cap(b) > 0 {
		t.Fatalf("%s: Text of %d tenants: %d bytes, %d; not none, %d", what, len(l), len(b), e, want)
	}
}

// P14.2, Right

func TestRightOfRowsTenants(t *testing.T) {
	for _, g := range goods {
		isRight(t, g.tenant, true)
		rightHeld(t, g.tenant)
	}
	for _, w := range wrongs() {
		if policy.Right(w.tenant) {
			t.Errorf("%s: Right", w.why)
		}
		isRight(t, w.tenant, false)
		rightHeld(t, w.tenant)
	}
}

// As many Devs as Ports, from 1 to 16.
func TestRightCountsPorts(t *testing.T) {
	if api.MaxList != mostPorts {
		t.Errorf("MaxList is %d", api.MaxList)
	}
	for devs := range 40 {
		for ports := range 40 {
			isRight(t, many(devs, ports), devs == ports && devs >= 1 && devs <= 16)
		}
	}
	for _, n := range []int{255, 256, 257, 272, 1 << 16, 1<<16 + 1, 1<<16 + 16} {
		isRight(t, many(n, n), false)
		isRight(t, many(n, 1), false)
		isRight(t, many(1, n), false)
	}
	// Lists that are nil, and that are empty.
	isRight(t, api.Tenant{Name: "a"}, false)
	isRight(t, api.Tenant{Name: "a", Devs: []string{}, Ports: []string{}}, false)
	isRight(t, api.Tenant{Name: "a", Devs: []string{"a"}}, false)
	isRight(t, api.Tenant{Name: "a", Ports: []string{"a"}}, false)
}

// Names of each length, of each byte, and what is no name, as the Name and at each place of lists of each length.
func TestRightAsksForNames(t *testing.T) {
	names := slices.Clone(noNames)
	for n := range 2 * mostName {
		names = append(names, strings.Repeat("a", n), strings.Repeat("z9", n)[:n])
	}
	for c := range 256 {
		b := string([]byte{byte(c)})
		names = append(names, b, b+"a", "a"+b, "a"+b+"a", longest[:mostName-1]+b)
	}
	names = append(names, "\u00e4", "a\u00e4", "a b", " a", "a ", "a#b", strings.Repeat("a", 1<<20))
	for _, name := range names {
		want := nameForm.MatchString(name)
		one := many(1, 1)
		one.Name = name
		isRight(t, one, want)
		for _, n := range []int{1, 2, 5, mostPorts} {
			for i := range n {
				dev, port := many(n, n), many(n, n)
				dev.Devs[i] = name
				port.Ports[i] = name
				isRight(t, dev, want)
				isRight(t, port, want)
			}
		}
	}
}

// One name or port may stand more than once, and a port may be named as its tenant and its device.
func TestRightAsksNothingElse(t *testing.T) {
	for _, name := range []string{"a", "tenant", longest} {
		for n := 1; n <= mostPorts; n++ {
			isRight(t, api.Tenant{Name: name, Devs: slices.Repeat([]string{name}, n), Ports: slices.Repeat([]string{name}, n)}, true)
		}
	}
	// What lies behind the lists' ends is none of them.
	one := many(mostPorts+4, mostPorts+4)
	one.Devs[3], one.Ports[3] = "A", ""
	one.Devs, one.Ports = one.Devs[:3], one.Ports[:3]
	isRight(t, one, true)
}

// P14.2, Text

func TestTextOfNoTenant(t *testing.T) {
	isText(t, nil, "")
	isText(t, []api.Tenant{}, "")
	// What lies behind the list's end is none of it.
	isText(t, []api.Tenant{{}, goods[0].tenant}[:0], "")
}

func TestTextOfTenants(t *testing.T) {
	for i, g := range goods {
		for _, row := range rowNumbers {
			isText(t, []api.Tenant{at(row, g.tenant)}, g.row+"\n")
		}
		for j, h := range goods {
			isText(t, []api.Tenant{g.tenant, h.tenant}, g.row+"\n"+h.row+"\n")
			isText(t, []api.Tenant{at(j, g.tenant), at(i, h.tenant), at(-1, g.tenant)}, g.row+"\n"+h.row+"\n"+g.row+"\n")
		}
	}
	isText(t, []api.Tenant{goods[1].tenant, goods[2].tenant}, "tenant red sw1.p1 sw2.p4\ntenant blue sw1.p2\n")
	for n := range mostPorts {
		isText(t, []api.Tenant{many(n+1, n+1)}, "tenant a"+strings.Repeat(" d.p", n+1)+"\n")
	}
}

func TestTextOfTenTenantsAndMore(t *testing.T) {
	for n := range mostTenants + 1 {
		isText(t, some(n), saidText(some(n)))
		for _, g := range goods {
			isText(t, slices.Repeat([]api.Tenant{g.tenant}, n), strings.Repeat(g.row+"\n", n))
		}
	}
	for n := mostTenants + 1; n <= 40; n++ {
		isRefused(t, "more tenants than may be", some(n), api.ErrBig)
		for _, g := range goods {
			isRefused(t, "one tenant too often", slices.Repeat([]api.Tenant{g.tenant}, n), api.ErrBig)
		}
	}
	for _, n := range []int{255, 256, 257, 265, 266, mostRows, mostRows + 1, 1 << 16, 1<<16 + 1, 1<<16 + 10} {
		isRefused(t, "many more tenants than may be", slices.Repeat([]api.Tenant{goods[0].tenant}, n), api.ErrBig)
		isRefused(t, "many more bytes than may be", slices.Repeat([]api.Tenant{goods[7].tenant}, n), api.ErrBig)
	}
	// No ten tenants are more bytes than may be: these are the longest ones.
	longestText := strings.Repeat(goods[7].row+"\n", mostTenants)
	isText(t, slices.Repeat([]api.Tenant{goods[7].tenant}, mostTenants), longestText)
	if len(longestText) > mostBytes {
		t.Errorf("the longest text has %d bytes", len(longestText))
	}
}

// A tenant that may not be is refused wherever it stands: among few tenants, as many as may be, and, ahead of their count, too many.
func TestTextRefusesTenantsThatMayNotBe(t *testing.T) {
	for _, w := range wrongs() {
		isRefused(t, w.why, []api.Tenant{w.tenant}, api.ErrArg)
		for _, n := range []int{2, 3, mostTenants - 1, mostTenants, mostTenants + 1, mostTenants + 2, 100} {
			tenants := some(n)
			for _, i := range []int{0, 1, n / 2, n - 2, n - 1, min(mostTenants-1, n-1), min(mostTenants, n-1)} {
				was := tenants[i]
				tenants[i] = w.tenant
				isRefused(t, w.why+", in place "+strconv.Itoa(i), tenants, api.ErrArg)
				tenants[i] = was
			}
			isRefused(t, w.why+", in all places", slices.Repeat([]api.Tenant{w.tenant}, n), api.ErrArg)
		}
	}
	tooMany := slices.Repeat([]api.Tenant{goods[7].tenant}, 1<<16)
	isRefused(t, "too many tenants", tooMany, api.ErrBig)
	tooMany[len(tooMany)-1] = api.Tenant{}
	isRefused(t, "the last of too many tenants", tooMany, api.ErrArg)
}

// Rules 2 to 5: what was handed in, and what was answered.

// roomy are tenants whose lists have texts behind their ends.
func roomy(l []api.Tenant) []api.Tenant {
	l = slices.Clone(l)
	for i := range l {
		l[i].Devs = append(slices.Clone(l[i].Devs), "x", "Y")[:len(l[i].Devs)]
		l[i].Ports = append(slices.Clone(l[i].Ports), "x", "Y")[:len(l[i].Ports)]
	}
	return l
}

// rooms are copies of tenants, in whose lists is what lies behind their ends, too.
func rooms(l []api.Tenant) []api.Tenant {
	l = slices.Clone(l)
	for i := range l {
		l[i].Devs = slices.Clone(l[i].Devs[:cap(l[i].Devs)])
		l[i].Ports = slices.Clone(l[i].Ports[:cap(l[i].Ports)])
	}
	return l
}

func TestRightAndTextLeaveWhatIsHandedIn(t *testing.T) {
	var tenants []api.Tenant
	for _, g := range goods {
		tenants = append(tenants, g.tenant)
	}
	for _, w := range wrongs()[:9] {
		tenants = append(tenants, w.tenant)
	}
	tenants = roomy(tenants)
	was := rooms(tenants)
	for n := range len(tenants) + 1 {
		policy.Text(tenants[:n])
		policy.Text(tenants[n:])
		policy.Text(tenants[n:n])
	}
	for _, one := range tenants {
		policy.Right(one)
	}
	if !agree(rooms(tenants), was) {
		t.Errorf("what was handed in is changed: %+v", tenants)
	}
	over := roomy(some(mostTenants + 1))
	wasOver := rooms(over)
	if policy.Text(over); !agree(rooms(over), wasOver) {
		t.Error("what was handed in, more than may be, is changed")
	}
}

// What one answer is turned to changes no other one, and not what was handed in.
func TestTextIsNewMemory(t *testing.T) {
	for n := range mostTenants + 1 {
		tenants := some(n)
		want := saidText(tenants)
		b, e := policy.Text(tenants)
		again, f := policy.Text(tenants)
		if e != api.OK || f != api.OK || string(b) != want {
			t.Fatalf("Text of %d tenants: %q, %d, %d", n, b, e, f)
		}
		whole := append(b, "more"...)
		fill(whole[:cap(whole)])
		fill(b[:cap(b)])
		if string(again) != want || !agree(tenants, some(n)) {
			t.Errorf("two answers share their memory: %q", again)
		}
		isText(t, tenants, want)
	}
}

// fill puts another byte to each.
func fill(b []byte) { copy(b, bytes.Repeat([]byte{'x'}, len(b))) }

// What is answered hangs on no call ahead of it, nor on what its lists have become since.
func TestTextKeepsNothingFromCallToCall(t *testing.T) {
	lists := [][]api.Tenant{nil, some(1), some(mostTenants), some(mostTenants + 1), {{}}, {goods[7].tenant}}
	for _, ahead := range lists {
		for _, l := range lists {
			before, e := policy.Text(l)
			policy.Text(ahead)
			if after, f := policy.Text(l); e != f || !bytes.Equal(before, after) {
				t.Errorf("%d tenants are written as %q, %d, and then as %q, %d", len(l), before, e, after, f)
			}
			if e == api.OK {
				isText(t, l, saidText(l))
			}
		}
	}
	tenants := roomy(some(2))
	b, _ := policy.Text(tenants)
	was := string(b)
	tenants[1].Devs[0], tenants[1].Name = "other", "other"
	if string(b) != was {
		t.Errorf("a text changes with its tenants: %q", b)
	}
	isText(t, tenants, saidText(tenants))
}
