package overlay_test

import (
	"fmt"
	"strings"
	"testing"

	"paling/api"
	"paling/overlay"
	"paling/stmt"
)

// P19.1

// The VTEP of the device that the line names, in a net written out, of one read from a text.
func TestVtepIsPut(t *testing.T) {
	n := api.Net{Devices: []api.Device{{Row: 1, Priority: 2, Name: "a", Mac: 3}, {Name: "b"}, {Row: 4, Priority: 5, Name: "c", Mac: 6}}}
	for i, text := range []string{"vtep b 10.0.0.2", "vtep c 10.0.0.1", "vtep a 255.255.255.255"} {
		l, e := stmt.Read(strings.Fields(text), 7)
		if e != ok {
			t.Fatal(e)
		}
		if n, e = overlay.Vtep(n, l); e != ok {
			t.Fatalf("%d: %d", i, e)
		}
	}
	for i, want := range []api.Device{{Row: 1, Priority: 2, Name: "a", Mac: 3, Vtep: 0xffffffff}, {Name: "b", Vtep: 0x0a000002}, {Row: 4, Priority: 5, Name: "c", Mac: 6, Vtep: 0x0a000001}} {
		if n.Devices[i] != want {
			t.Errorf("the device %d is %+v, not %+v", i, n.Devices[i], want)
		}
	}
}

// Each device of a row gets one in its turn, in either order; the last one of a net that has all there is.
func TestVtepOfEachDevice(t *testing.T) {
	up, down := row(8), row(8)
	for i := range 8 {
		up = makesVtep(t, "upwards", up, vtep(up.Devices[i].Name, uint32(i+1)), i)
		down = makesVtep(t, "downwards", down, vtep(down.Devices[7-i].Name, uint32(i+1)), 7-i)
	}
	makesVtep(t, "the whole", whole(), vtep("d", 99), 3)
	for i := range 8 {
		n := row(8)
		makesVtep(t, "one alone", n, vtep(n.Devices[i].Name, 99), i)
	}
}

// Each address that a line may have is put as it is; 0 is none.
func TestVtepOfAddresses(t *testing.T) {
	for bit := range 32 {
		makesVtep(t, "one bit", whole(), vtep("d", 1<<bit), 3)
		makesVtep(t, "all but one", whole(), vtep("d", ^uint32(1<<bit)), 3)
	}
	for _, addr := range []uint32{1, 0x0a000000, 0x0a000004, 0x7fffffff, 0x80000000, 0xffffffff} {
		makesVtep(t, "an address", whole(), vtep("d", addr), 3)
	}
	refuses(t, "the address 0", whole(), vtep("d", 0), arg)
}

// The row of the line stands nowhere: the device keeps its own.
func TestVtepLeavesRows(t *testing.T) {
	for _, at := range []int{least, -1, 0, 1, 4, 400, most} {
		l := vtep("d", 99)
		l.Row = at
		if got := makesVtep(t, "a row", whole(), l, 3); got.Devices[3].Row != 4 {
			t.Errorf("the row %d is the device's", got.Devices[3].Row)
		}
	}
}

// A device that has a VTEP, that one or another one; first, between and last.
func TestVtepOfADeviceThatHasOne(t *testing.T) {
	for i, word := range []string{"a", "b", "c"} {
		refuses(t, "its own one", whole(), vtep(word, 0x0a000001+uint32(i)), twice)
		refuses(t, "a new one", whole(), vtep(word, 99), twice)
		refuses(t, "another device's", whole(), vtep(word, 0x0a000001+uint32((i+1)%3)), twice)
	}
	n := makesVtep(t, "one", whole(), vtep("d", 99), 3)
	refuses(t, "it again", n, vtep("d", 99), twice)
	refuses(t, "a new one", n, vtep("d", 98), twice)
	refuses(t, "without domains", laid(8), vtep("sw8", 99), twice)
}

// Another device that has that address, ahead and behind; one that is unlike it in one bit is another one.
func TestVtepThatAnotherDeviceHas(t *testing.T) {
	for has := range 8 {
		for dev := range 8 {
			if dev == has {
				continue
			}
			n := row(8)
			n.Devices[has].Vtep = 0x0a000007
			word := n.Devices[dev].Name
			refuses(t, fmt.Sprint("of ", has), n, vtep(word, 0x0a000007), twice)
			makesVtep(t, fmt.Sprint("not of ", has), n, vtep(word, 0x0a000008), dev)
		}
	}
	for bit := range 32 {
		n := row(2)
		n.Devices[1].Vtep = 0x0a000007
		makesVtep(t, "one bit", n, vtep("sw1", 0x0a000007^1<<bit), 0)
	}
	// A device that has it need have no name.
	n := row(3)
	n.Devices[2].Name, n.Devices[2].Vtep = "", 7
	refuses(t, "no name", n, vtep("sw1", 7), twice)
	// An address that stands elsewhere is no VTEP.
	n = whole()
	n.Floods[0].Addrs[1] = 99
	makesVtep(t, "an address of a flood list", n, vtep("d", 99), 3)
	makesVtep(t, "an address of an interface", n, vtep("d", 0x0a000101), 3)
}

// Of several devices of one name the first one is taken; what lies behind the end of the list is none.
func TestVtepOfTheFirstOfAName(t *testing.T) {
	n := row(3)
	n.Devices[2].Name = "sw2"
	n = makesVtep(t, "the first sw2", n, vtep("sw2", 9), 1)
	refuses(t, "the first sw2 again", n, vtep("sw2", 8), twice)
	n = laid(3)
	n.Devices = n.Devices[:2]
	n.Domains = n.Domains[:2]
	n.Devices[0].Vtep = 0
	refuses(t, "a device behind the end", n, vtep("sw3", 9), name)
	makesVtep(t, "an address behind the end", n, vtep("sw1", 3), 0)
}
