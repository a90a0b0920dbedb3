package names

import (
	"slices"
	"strings"

	"paling/api"
)

// Same tells whether two nets are alike.
func Same(a, b api.Net) bool {
	return slices.Equal(a.Devices, b.Devices) &&
		slices.EqualFunc(a.Ports, b.Ports, samePort) &&
		slices.Equal(a.Links, b.Links) &&
		slices.EqualFunc(a.Domains, b.Domains, sameDomain) &&
		slices.Equal(a.Statics, b.Statics) &&
		slices.EqualFunc(a.Floods, b.Floods, sameFlood) &&
		slices.EqualFunc(a.Vrfs, b.Vrfs, sameVrf) &&
		slices.Equal(a.Irbs, b.Irbs)
}

// Copy copies a net.
func Copy(n api.Net) api.Net {
	return api.Net{
		Devices: each(n.Devices, copyDevice),
		Ports:   each(n.Ports, copyPort),
		Links:   slices.Clone(n.Links),
		Domains: each(n.Domains, copyDomain),
		Statics: slices.Clone(n.Statics),
		Floods:  each(n.Floods, copyFlood),
		Vrfs:    each(n.Vrfs, copyVrf),
		Irbs:    slices.Clone(n.Irbs),
	}
}

// each copies a list, each item by one.
func each[T any](l []T, one func(item T) T) []T {
	out := make([]T, 0, len(l))
	for _, item := range l {
		out = append(out, one(item))
	}
	return out
}

func samePort(a, b api.Port) bool {
	return a.Row == b.Row && a.Dev == b.Dev && a.Native == b.Native && a.Cost == b.Cost && a.Link == b.Link &&
		a.Name == b.Name && slices.Equal(a.Tagged, b.Tagged)
}

func sameDomain(a, b api.Domain) bool {
	return a.Dev == b.Dev && a.Vlan == b.Vlan && a.Vni == b.Vni && a.Irb == b.Irb && a.Row == b.Row &&
		slices.Equal(a.Peers, b.Peers)
}

func sameFlood(a, b api.Flood) bool {
	return a.Row == b.Row && a.Dev == b.Dev && a.Vni == b.Vni && slices.Equal(a.Addrs, b.Addrs)
}

func sameVrf(a, b api.Vrf) bool {
	return a.Row == b.Row && a.Dev == b.Dev && a.Name == b.Name &&
		slices.Equal(a.Imports, b.Imports) && slices.Equal(a.Exports, b.Exports)
}

func copyDevice(d api.Device) api.Device {
	d.Name = strings.Clone(d.Name)
	return d
}

func copyPort(p api.Port) api.Port {
	p.Name, p.Tagged = strings.Clone(p.Name), slices.Clone(p.Tagged)
	return p
}

func copyDomain(d api.Domain) api.Domain {
	d.Peers = slices.Clone(d.Peers)
	return d
}

func copyFlood(f api.Flood) api.Flood {
	f.Addrs = slices.Clone(f.Addrs)
	return f
}

func copyVrf(v api.Vrf) api.Vrf {
	v.Name, v.Imports, v.Exports = strings.Clone(v.Name), slices.Clone(v.Imports), slices.Clone(v.Exports)
	return v
}
