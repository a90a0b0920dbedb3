package names

import (
	"slices"

	"paling/api"
	"paling/num"
)

// How many of a net's lists may be of which api has no limit, and the ends of its numbers.
const (
	maxFloods = 48
	maxIrbs   = 48
	maxVlan   = 4094
	maxVni    = 1<<24 - 1
	maxTarget = 65535 // of Imports and Exports
	maxBits   = 30    // of an Irb's Net
)

// Right tells whether a net may be.
func Right(n api.Net) bool {
	// What is asked later takes it that there is a device for each Dev.
	return few(n) && devices(n) &&
		all(n.Ports, func(i int, p api.Port) bool { return port(n, i, p) }) &&
		all(n.Links, func(i int, l api.Link) bool { return link(n, i, l) }) &&
		all(n.Domains, func(i int, d api.Domain) bool { return domain(n, i, d) }) &&
		all(n.Statics, func(_ int, s api.Static) bool { return static(n, s) }) &&
		all(n.Floods, func(_ int, f api.Flood) bool { return len(f.Addrs) <= api.MaxList }) &&
		all(n.Vrfs, func(_ int, v api.Vrf) bool { return rises(v.Imports, maxTarget) && rises(v.Exports, maxTarget) }) &&
		all(n.Irbs, func(i int, r api.Irb) bool { return irb(n, i, r) })
}

// all tells whether each item of a list is what it must be, in its place.
func all[T any](l []T, must func(at int, item T) bool) bool {
	for i, item := range l {
		if !must(i, item) {
			return false
		}
	}
	return true
}

// place tells whether a number is a place of a list.
func place[T any](at int, l []T) bool { return at >= 0 && at < len(l) }

// few tells whether no list has more than it may have.
func few(n api.Net) bool {
	return len(n.Devices) <= api.MaxDevices && len(n.Ports) <= api.MaxPorts && len(n.Links) <= api.MaxLinks &&
		len(n.Domains) <= api.MaxDomains && len(n.Statics) <= api.MaxStatics && len(n.Floods) <= maxFloods &&
		len(n.Vrfs) <= api.MaxVrfs && len(n.Irbs) <= maxIrbs
}

// devices tells whether each Dev is the place of a device.
func devices(n api.Net) bool {
	return all(n.Ports, func(_ int, p api.Port) bool { return place(p.Dev, n.Devices) }) &&
		all(n.Domains, func(_ int, d api.Domain) bool { return place(d.Dev, n.Devices) }) &&
		all(n.Floods, func(_ int, f api.Flood) bool { return place(f.Dev, n.Devices) }) &&
		all(n.Vrfs, func(_ int, v api.Vrf) bool { return place(v.Dev, n.Devices) })
}

// port tells whether the port of a place may be.
func port(n api.Net, at int, p api.Port) bool {
	if p.Native < 0 || p.Native > maxVlan || !rises(p.Tagged, maxVlan) || slices.Contains(p.Tagged, p.Native) {
		return false
	}
	if p.Native == 0 && len(p.Tagged) == 0 {
		return false
	}
	if p.Link != none && (!place(p.Link, n.Links) || !joins(n.Links[p.Link], at)) {
		return false
	}
	known := func(_, vlan int) bool { return find(n, p.Dev, vlan) != none }
	return (p.Native == 0 || known(0, p.Native)) && all(p.Tagged, known)
}

// link tells whether the link of a place may be.
func link(n api.Net, at int, l api.Link) bool {
	if !place(l.A, n.Ports) || !place(l.B, n.Ports) {
		return false
	}
	a, b := n.Ports[l.A], n.Ports[l.B]
	return a.Dev != b.Dev && a.Link == at && b.Link == at
}

// domain tells whether the domain of a place may be.
func domain(n api.Net, at int, d api.Domain) bool {
	if d.Vlan < 1 || d.Vlan > maxVlan || d.Vni < 0 || d.Vni > maxVni {
		return false
	}
	if d.Irb != none && (!place(d.Irb, n.Irbs) || n.Irbs[d.Irb].Domain != at) {
		return false
	}
	// Of two of one Dev and Vlan the second one is not the first.
	return find(n, d.Dev, d.Vlan) == at && all(d.Peers, func(i, peer int) bool {
		return place(peer, n.Domains) && meet(n, at, peer) && !slices.Contains(d.Peers[:i], peer)
	})
}

// meet tells whether a domain may have another one as a peer.
func meet(n api.Net, at, peer int) bool {
	d, p := n.Domains[at], n.Domains[peer]
	return d.Dev != p.Dev && n.Devices[d.Dev].Vtep != 0 && n.Devices[p.Dev].Vtep != 0 &&
		d.Vni != 0 && d.Vni == p.Vni && slices.Contains(p.Peers, at)
}

// static tells whether a static entry may be.
func static(n api.Net, s api.Static) bool {
	return place(s.Domain, n.Domains) && place(s.Port, n.Ports) && has(n.Ports[s.Port], n.Domains[s.Domain])
}

// irb tells whether the interface of a place may be.
func irb(n api.Net, at int, r api.Irb) bool {
	if !place(r.Domain, n.Domains) || !place(r.Vrf, n.Vrfs) || r.Net.Bits < 1 || r.Net.Bits > maxBits {
		return false
	}
	d := n.Domains[r.Domain]
	return d.Irb == at && d.Dev == n.Vrfs[r.Vrf].Dev
}

// joins tells whether a link has a port.
func joins(l api.Link, port int) bool { return l.A == port || l.B == port }

// rises tells whether a list has nothing, or rises from 1 on.
func rises(l []int, most int) bool { return len(l) == 0 || num.Rising(l, 1, most) }
