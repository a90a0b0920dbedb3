package ports_test

import (
	"fmt"
	"slices"
	"testing"

	"paling/api"
	"paling/ports"
)

// P16.1

// isDevice asks that a device's line is put behind all others, and that nothing else comes with it.
func isDevice(t *testing.T, what string, n api.Net, l api.Line, d api.Device) api.Net {
	t.Helper()
	want := clone(n, 0)
	want.Devices = append(want.Devices, d)
	return isPut(t, what, ports.Device, n, l, want)
}

func TestDeviceOfNothing(t *testing.T) {
	l := api.Line{Row: 7, Kind: 1, Dev: "a", Num: 4096, Mac: 1}
	d := api.Device{Row: 7, Priority: 4096, Name: "a", Mac: 1}
	isDevice(t, "nil lists", api.Net{}, l, d)
	isDevice(t, "empty lists", clone(api.Net{}, 0), l, d)
	isDevice(t, "lists with something behind their ends", clone(api.Net{}, 3), l, d)
}

// Each field of the device, by itself and at the ends of what it may be.
func TestDeviceHasTheLinesFields(t *testing.T) {
	base := api.Line{Row: 70, Kind: 1, Dev: "z9", Num: 32768, Mac: 0x0a0b0c0d0e0f}
	for what, n := range map[string]api.Net{"nothing": {}, "the whole": whole(), "seven devices": row(7), "the net of peers": met(), "no names": bare()} {
		isDevice(t, what, n, base, api.Device{Row: 70, Priority: 32768, Name: "z9", Mac: 0x0a0b0c0d0e0f})
		for _, at := range []int{least, -1, 0, 1, 70, 400, 401, 1 << 32, most} {
			l := base
			l.Row = at
			isDevice(t, what, n, l, api.Device{Row: at, Priority: 32768, Name: "z9", Mac: 0x0a0b0c0d0e0f})
		}
		for _, priority := range []int{0, 1, 255, 256, 4096, mostShort - 1, mostShort} {
			l := base
			l.Num = priority
			isDevice(t, what, n, l, api.Device{Row: 70, Priority: priority, Name: "z9", Mac: 0x0a0b0c0d0e0f})
		}
		for _, name := range []string{"z", "zz", "z0123456789z", "device", "access"} {
			l := base
			l.Dev = name
			isDevice(t, what, n, l, api.Device{Row: 70, Priority: 32768, Name: name, Mac: 0x0a0b0c0d0e0f})
		}
		for _, mac := range []uint64{8, 255, 256, 1 << 32, 0x020100000001, 0x040000000000, 0x06ffffffffff, 0xfefffffffffe} {
			l := base
			l.Mac = mac
			isDevice(t, what, n, l, api.Device{Row: 70, Priority: 32768, Name: "z9", Mac: mac})
		}
	}
	isDevice(t, "the Mac 0", row(7), device("z", 0, 0), api.Device{Row: 70, Name: "z"})
}

// A name that a device has, and a Mac that one has, by itself and both: the first, middle ones and the last one's.
func TestDeviceThatIsThere(t *testing.T) {
	for what, n := range goods() {
		for i, d := range n.Devices {
			what := fmt.Sprint(what, ", device ", i)
			if d.Name == "" {
				isRefused(t, what+": its Mac", ports.Device, n, device("z", 4096, d.Mac), twice)
				continue
			}
			isRefused(t, what+": its name", ports.Device, n, device(d.Name, 4096, 0xaa), twice)
			isRefused(t, what+": its Mac", ports.Device, n, device("z", 4096, d.Mac), twice)
			isRefused(t, what+": both", ports.Device, n, device(d.Name, d.Priority, d.Mac), twice)
			for j, other := range n.Devices {
				isRefused(t, fmt.Sprint(what, ": its name, and the Mac of ", j), ports.Device, n, device(d.Name, 4096, other.Mac), twice)
			}
		}
	}
	// A device without an address has the Mac 0.
	isRefused(t, "the Mac 0", ports.Device, bare(), device("z", 4096, 0), twice)
	// What was put is there.
	n := isDevice(t, "a device", row(3), device("z", 1, 99), api.Device{Row: 70, Priority: 1, Name: "z", Mac: 99})
	isRefused(t, "the device again", ports.Device, n, device("z", 1, 99), twice)
	isRefused(t, "its name again", ports.Device, n, device("z", 1, 98), twice)
	isRefused(t, "its Mac again", ports.Device, n, device("y", 1, 99), twice)
}

// Names that are alike but for their case, their end or their beginning.
func TestDeviceOfNamesThatAreAlike(t *testing.T) {
	for _, there := range []string{"SW1", "Sw1", "sW1", "sw", "sw11", "sw10", "sw2", "s", "w1", "sw1 ", " sw1", "sw1\x00", "sw1\n", "xsw1", "sw01", ""} {
		for at := range 3 {
			n := row(3)
			n.Devices[0].Name, n.Devices[1].Name, n.Devices[2].Name = "a", "b", "c"
			n.Devices[at].Name = there
			isDevice(t, fmt.Sprintf("%q is there at %d", there, at), n, device("sw1", 4096, 50), api.Device{Row: 70, Priority: 4096, Name: "sw1", Mac: 50})
			n.Devices[at].Name = "sw1"
			isRefused(t, fmt.Sprintf("sw1 is there at %d", at), ports.Device, n, device("sw1", 4096, 50), twice)
		}
	}
}

// Macs that are unlike in one bit; a Mac that is another number of a device, or another thing's.
func TestDeviceOfMacsThatAreAlike(t *testing.T) {
	const mac = 0x0c00000000f0
	for i := range 48 {
		if i == 40 {
			continue // a group's, which no line has
		}
		for at := range 3 {
			n := row(3)
			n.Devices[at].Mac = mac ^ 1<<i
			isDevice(t, fmt.Sprint("another bit ", i, " at ", at), n, device("z", 4096, mac), api.Device{Row: 70, Priority: 4096, Name: "z", Mac: mac})
		}
	}
	n := whole()
	// A priority, a row, a VTEP, a static entry's Mac, and the places and the names of other things.
	n.Devices[0].Priority, n.Devices[1].Row, n.Devices[2].Vtep, n.Statics[0].Mac = 60, 60, 60, 60
	for _, name := range []string{"p1", "p2", "red", "blue", "z"} {
		isDevice(t, name, n, device(name, 60, 60), api.Device{Row: 70, Priority: 60, Name: name, Mac: 60})
	}
}

// Seven, eight and nine devices; and one after another from none on.
func TestDeviceAtTheLimit(t *testing.T) {
	for count := range mostDevices {
		isDevice(t, fmt.Sprint(count, " devices"), row(count), device("z", 4096, 99), api.Device{Row: 70, Priority: 4096, Name: "z", Mac: 99})
	}
	isRefused(t, "eight devices", ports.Device, row(8), device("z", 4096, 99), big)
	for _, count := range []int{9, 10, 16, 300} {
		isRefused(t, fmt.Sprint(count, " devices"), ports.Device, row(count), device("z", 4096, 99), arg)
	}
	var n api.Net
	for i, d := range row(8).Devices {
		d.Row = 70
		n = isDevice(t, fmt.Sprint("device ", i), n, device(d.Name, d.Priority, d.Mac), d)
	}
	isRefused(t, "the ninth", ports.Device, n, device("sw9", 4096, 9), big)
	isRefused(t, "the ninth once more", ports.Device, n, device("sw9", 4096, 9), big)
	if len(n.Devices) != mostDevices {
		t.Errorf("%d devices", len(n.Devices))
	}
	// No other list's limit bears on devices.
	full := crowd(48, 40)
	isDevice(t, "as many ports and domains as may be", full, device("z", 4096, 99), api.Device{Row: 70, Priority: 4096, Name: "z", Mac: 99})
	// Room behind the list is none that counts.
	n = row(8)
	n.Devices = n.Devices[:7]
	isDevice(t, "seven of eight", n, device("sw8", 4096, 8), api.Device{Row: 70, Priority: 4096, Name: "sw8", Mac: 8})
}

// wrongDevices are lines that are a device's but for one thing, which may not be.
func wrongDevices(dev string, mac uint64) map[string]api.Line {
	l := map[string]api.Line{}
	for i, turn := range []func(l *api.Line){
		func(l *api.Line) { l.Dev = "" },
		func(l *api.Line) { l.Dev = "A" },
		func(l *api.Line) { l.Dev = "9a" },
		func(l *api.Line) { l.Dev = "a b" },
		func(l *api.Line) { l.Dev = "a-b" },
		func(l *api.Line) { l.Dev = "abcdefghijklm" },
		func(l *api.Line) { l.Num = -1 },
		func(l *api.Line) { l.Num = mostShort + 1 },
		func(l *api.Line) { l.Num = least },
		func(l *api.Line) { l.Num = most },
		func(l *api.Line) { l.Mac = 0x010000000000 },
		func(l *api.Line) { l.Mac = 0xffffffffffff },
		func(l *api.Line) { l.Mac = 0x020000000000 },
		func(l *api.Line) { l.Mac = 0x0200ffffffff },
		func(l *api.Line) { l.Mac |= 1 << 48 },
		func(l *api.Line) { l.Mac |= 1 << 63 },
		func(l *api.Line) { l.Port = "p1" },
		func(l *api.Line) { l.Peer = "b" },
		func(l *api.Line) { l.Far = "p1" },
		func(l *api.Line) { l.Name = "red" },
		func(l *api.Line) { l.Addr = 1 },
		func(l *api.Line) { l.Bits = 1 },
		func(l *api.Line) { l.Vlan = 10 },
		func(l *api.Line) { l.Cost = 4 },
		func(l *api.Line) { l.Tagged = []int{10} },
		func(l *api.Line) { l.Imports = []int{1} },
		func(l *api.Line) { l.Exports = []int{1} },
		func(l *api.Line) { l.Addrs = []uint32{1} },
		func(l *api.Line) { l.Kind = 0 },
		func(l *api.Line) { l.Kind = 2 },
		func(l *api.Line) { l.Kind = 3 },
		func(l *api.Line) { l.Kind = 9 },
		func(l *api.Line) { l.Kind = 10 },
		func(l *api.Line) { l.Kind = -1 },
		func(l *api.Line) { l.Kind = least },
		func(l *api.Line) { l.Kind = most },
	} {
		one := device(dev, 4096, mac)
		turn(&one)
		l[fmt.Sprint("wrong device ", i)] = one
	}
	return l
}

// Lines that may not be, where a right one would be put, where it would be there already, and where there is no room.
func TestDeviceOfWrongLines(t *testing.T) {
	for what, l := range wrongDevices("z", 0x0a0000000007) {
		for of, n := range goods() {
			isRefused(t, what+" of "+of, ports.Device, n, l, arg)
		}
	}
	for what, l := range wrongDevices("sw1", 2) {
		isRefused(t, what+" that is there", ports.Device, row(7), l, arg)
		isRefused(t, what+" that is there, without room", ports.Device, row(8), l, arg)
	}
}

// others are right lines of each other kind than these two, all of whose words fit the whole net, but for a port, a VRF and a device that it does not have.
func others() []api.Line {
	return []api.Line{
		{Row: 80, Kind: 3, Dev: "a", Port: "p9", Peer: "b", Far: "p9"},
		{Row: 80, Kind: 3, Dev: "z", Port: "p1", Peer: "b", Far: "p9"},
		{Row: 80, Kind: 4, Dev: "a", Vlan: 10, Mac: 99, Port: "p9"},
		{Row: 80, Kind: 4, Dev: "z", Vlan: 10, Mac: 99, Port: "p1"},
		{Row: 80, Kind: 5, Dev: "a", Addr: 99},
		{Row: 80, Kind: 5, Dev: "z", Addr: 99},
		{Row: 80, Kind: 6, Dev: "a", Vlan: 10, Num: 5010},
		{Row: 80, Kind: 6, Dev: "z", Vlan: 10, Num: 5010},
		{Row: 80, Kind: 7, Dev: "a", Num: 5010, Addrs: []uint32{2, 3}},
		{Row: 80, Kind: 7, Dev: "z", Num: 5010, Addrs: []uint32{2, 3}},
		{Row: 80, Kind: 8, Dev: "a", Name: "green", Imports: []int{1}, Exports: []int{1, 2}},
		{Row: 80, Kind: 8, Dev: "z", Name: "green"},
		{Row: 80, Kind: 9, Dev: "a", Vlan: 20, Name: "red", Addr: 0x0b000001, Bits: 24},
		{Row: 80, Kind: 9, Dev: "z", Vlan: 20, Name: "red", Addr: 0x0b000001, Bits: 24},
	}
}

// Right lines of each other kind, with all else right.
func TestDeviceOfOtherKinds(t *testing.T) {
	all := append(others(), access("a", "p9", 10), access("z", "p1", 10), trunk("a", "p9", 10, 20, 30), trunk("z", "p1", 0, 20))
	for of, n := range goods() {
		for _, l := range all {
			isRefused(t, of, ports.Device, n, l, arg)
		}
	}
}

// Nets that may not be, with a line that would be put, one that is there already, and one that may not be.
func TestDeviceOfWrongNets(t *testing.T) {
	for _, f := range faults() {
		n := whole()
		f.turn(&n)
		isRefused(t, f.what, ports.Device, n, device("z", 4096, 99), arg)
		isRefused(t, f.what+", a device that is there", ports.Device, n, device("a", 4096, 1), arg)
		isRefused(t, f.what+", a wrong line", ports.Device, n, device("", 4096, 1), arg)
		isRefused(t, f.what+", another kind", ports.Device, n, access("a", "p9", 10), arg)
	}
	isRefused(t, "a port of no device", ports.Device, api.Net{Ports: make([]api.Port, 1)}, device("z", 4096, 99), arg)
}

// Which error is told where two would fit: what is there already goes ahead of what is too much, and a line or a net that may not be ahead of both.
func TestDevicesErrorsInOrder(t *testing.T) {
	for i, d := range row(8).Devices {
		isRefused(t, fmt.Sprint("the name of ", i, ", without room"), ports.Device, row(8), device(d.Name, 4096, 99), twice)
		isRefused(t, fmt.Sprint("the Mac of ", i, ", without room"), ports.Device, row(8), device("z", 4096, d.Mac), twice)
	}
	isRefused(t, "a name that is there, of nine", ports.Device, row(9), device("sw9", 4096, 99), arg)
	isRefused(t, "a Mac that is there, of nine", ports.Device, row(9), device("z", 4096, 9), arg)
	isRefused(t, "a wrong line, of eight", ports.Device, row(8), device("z", -1, 99), arg)
	isRefused(t, "another kind, of eight", ports.Device, row(8), access("sw1", "p1", 10), arg)
}

// Each net with devices of each name and Mac, held against what the chapter says.
func TestDeviceAsTheChapterSays(t *testing.T) {
	words := []string{"a", "b", "c", "d", "e", "sw1", "sw2", "sw3", "sw7", "sw8", "sw9", "p1", "red", "aa", "", "A", "abcdefghijklm"}
	macs := []uint64{0, 1, 2, 3, 4, 7, 8, 9, 99, 0xfeffffffffff, 0xfefffffffffe, 0x020000000001, 0xffffffffffff, 1 << 48, 1<<48 + 1}
	for what, n := range goods() {
		for _, dev := range words {
			for _, mac := range macs {
				isSaid(t, what, n, device(dev, 4096, mac))
			}
		}
	}
}

// Devices that are put one after another stand in the order in which they were put.
func TestDevicesInOrder(t *testing.T) {
	for _, first := range [][]string{{"a", "b", "c"}, {"c", "b", "a"}, {"b", "c", "a"}} {
		n := api.Net{}
		for i, dev := range first {
			var e api.Errno
			if n, e = ports.Device(n, device(dev, i, uint64(9-i))); e != ok {
				t.Fatalf("%s: %d", dev, e)
			}
		}
		var got []string
		for _, d := range n.Devices {
			got = append(got, d.Name)
		}
		if !slices.Equal(got, first) {
			t.Errorf("%v, not %v", got, first)
		}
	}
}
