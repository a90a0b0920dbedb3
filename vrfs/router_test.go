package vrfs_test

import (
	"fmt"
	"math"
	"testing"

	"paling/api"
	"paling/mac"
	"paling/vrfs"
)

// P20.4

// The address of the domain's own interface leads to it, as it was put and as a text has it.
func TestRouterOfWhatIsPut(t *testing.T) {
	n := laid(2, 2)
	n, e := vrfs.Irb(n, irb("sw2", 1, "red", 0x0a000001, 24))
	if e != ok {
		t.Fatal(e)
	}
	n, e = vrfs.Irb(n, irb("sw1", 2, "red", 0x0b0c0d0e, 30))
	if e != ok {
		t.Fatal(e)
	}
	first, _ := mac.Read("02:00:0a:00:00:01")
	second, _ := mac.Read("02:00:0b:0c:0d:0e")
	for domain, want := range [][2]int{{-1, -1}, {-1, 1}, {0, -1}, {-1, -1}} {
		routes(t, "the first address", n, domain, first, want[0])
		routes(t, "the second address", n, domain, second, want[1])
	}
}

// anyMacs are addresses of routers of some ips, and each of them with something turned.
func anyMacs(ips ...uint32) []uint64 {
	l := []uint64{0, 1, mac.Broadcast, 1 << 48, math.MaxUint64, 0x020000000000, 0x0200ffffffff, 0x020100000000, 0x01ffffffffff}
	for _, ip := range ips {
		l = append(l, host(ip), uint64(ip), host(ip)|1<<48, host(ip)|0xffff<<48, host(ip)|1<<40, host(ip)|1<<32, host(ip)^1<<41, host(ip)+1, host(ip)-1, host(ip)<<16)
	}
	return l
}

// Each domain of the whole, with its own interface's address, each other one's, and those that are none's.
func TestRouterOfTheWhole(t *testing.T) {
	n := whole()
	ips := []uint32{0x0a000001, 0x0a000101, 0x0b000001, 0x0a000301}
	owns := map[int]int{0: 0, 4: 1, 2: 2, 7: 3}
	found := 0
	for _, domain := range anyPlaces(len(n.Domains)) {
		for _, m := range anyMacs(ips...) {
			want := -1
			if i, has := owns[domain]; has && m == host(ips[i]) {
				want = i
				found++
			}
			routes(t, "the whole", n, domain, m, want)
		}
	}
	if found != 4 {
		t.Errorf("%d are found", found)
	}
}

// The address that another domain's interface has, of the device itself and of another one, of a domain with an interface and without one; of two interfaces of one address each domain has its own.
func TestRouterOfOtherDomains(t *testing.T) {
	n := met()
	for domain := range n.Domains {
		for ip := range uint32(6) {
			want := -1
			if int(ip) == domain%4 {
				want = 11 - domain
			}
			routes(t, "the net of peers", n, domain, host(ip), want)
		}
	}
	n = faced(faced(laid(2, 2), 3, 1, prefix(0x0a000001, 24)), 0, 0, prefix(0x0b000001, 24))
	for domain, want := range [][2]int{{-1, 1}, {-1, -1}, {-1, -1}, {0, -1}} {
		routes(t, "two interfaces", n, domain, host(0x0a000001), want[0])
		routes(t, "two interfaces", n, domain, host(0x0b000001), want[1])
	}
}

// Each bit of the address turned, those above its 48 too, and more than one of them.
func TestRouterOfEachBit(t *testing.T) {
	for _, ip := range []uint32{0, 1, 0x0a000001, 0x7fffffff, 0x80000000, 0xffffffff} {
		n := faced(laid(1, 1), 0, 0, prefix(ip, 24))
		routes(t, "its own", n, 0, host(ip), 0)
		for bit := range 64 {
			routes(t, fmt.Sprint("the bit ", bit), n, 0, host(ip)^1<<bit, -1)
		}
		for high := 1; high < 1<<16; high += 257 {
			routes(t, "bits above its 48", n, 0, host(ip)|uint64(high)<<48, -1)
		}
		routes(t, "no host's, by its last four bytes", n, 0, uint64(ip), -1)
		routes(t, "a group's", n, 0, host(ip)|1<<40, -1)
		routes(t, "everybody's", n, 0, mac.Broadcast, -1)
	}
}

// A prefix's bits bear on nothing, nor do its first and its last address.
func TestRouterOfEachPrefix(t *testing.T) {
	for bits := 1; bits <= 30; bits++ {
		n := faced(laid(1, 1), 0, 0, prefix(0x0a141e28, bits))
		routes(t, "its own", n, 0, host(0x0a141e28), 0)
		for bit := range 32 {
			routes(t, "another one of the prefix", n, 0, host(0x0a141e28^1<<bit), -1)
		}
	}
}

// A domain without an interface, though the net has some, and though the domain's place is one of theirs.
func TestRouterOfADomainWithoutOne(t *testing.T) {
	n := faced(faced(laid(1, 5), 4, 0, prefix(0x0a000001, 24)), 2, 0, prefix(0x0a000002, 24))
	for _, domain := range []int{0, 1, 3} {
		for _, m := range anyMacs(0x0a000001, 0x0a000002, 0, 0xffffffff) {
			routes(t, "without one", n, domain, m, -1)
		}
	}
	routes(t, "with one", n, 4, host(0x0a000001), 0)
	routes(t, "with one", n, 2, host(0x0a000002), 1)
	routes(t, "a net without any", laid(1, 1), 0, host(0), -1)
}

// A place below the first, the last one, one past it and ends of the numbers; what lies behind the end of the domains is none.
func TestRouterOfAnyPlace(t *testing.T) {
	n := laid(8, 6)
	for i := range 48 {
		n = faced(n, i, i/6, prefix(0x0a000001, 24))
	}
	for _, domain := range anyPlaces(48) {
		want := -1
		if domain >= 0 && domain < 48 {
			want = domain
		}
		routes(t, "48 domains", n, domain, host(0x0a000001), want)
	}
	routes(t, "nothing", api.Net{}, 0, host(0), -1)
	n = faced(laid(1, 2), 0, 0, prefix(0x0a000001, 24))
	n.Domains = n.Domains[:1]
	routes(t, "the last one", n, 0, host(0x0a000001), 0)
	routes(t, "behind the end", n, 1, host(0x0a000001), -1)
}

// Of a net that may not be nothing is told.
func TestRouterOfWrongNets(t *testing.T) {
	for _, f := range faults() {
		n := whole()
		f.turn(&n)
		for _, domain := range anyPlaces(len(n.Domains)) {
			for _, m := range anyMacs(0x0a000001, 0x0a000101, 0x0b000001, 0x0a000301) {
				routes(t, f.what, n, domain, m, -1)
			}
		}
	}
	n := faced(laid(2, 2), 0, 0, prefix(0x0a000001, 24))
	routes(t, "a net that may be", n, 0, host(0x0a000001), 0)
	n.Irbs[0].Domain = 1
	routes(t, "an interface of another domain", n, 0, host(0x0a000001), -1)
	routes(t, "an interface of another domain", n, 1, host(0x0a000001), -1)
}

// Each domain of nets that are drawn, held against what the chapter says; it has one address of a router at most, and one interface.
func TestRouterAsTheChapterSays(t *testing.T) {
	found, none := 0, 0
	for seed := range 400 {
		n := drawn(draws(uint64(4000 + seed)))
		var ips []uint32
		for _, i := range n.Irbs {
			ips = append(ips, i.Net.Addr)
		}
		all := anyMacs(ips...)
		for domain := -1; domain <= len(n.Domains); domain++ {
			leads := map[uint64]int{}
			for _, m := range all {
				if isRouted(t, fmt.Sprint("seed ", seed), n, domain, m) {
					leads[m], _ = vrfs.Router(n, domain, m)
				}
			}
			switch {
			case len(leads) > 1:
				t.Fatalf("seed %d: the domain %d has the routers %x", seed, domain, leads)
			case len(leads) == 1:
				found++
			default:
				none++
			}
			for _, i := range leads {
				if n.Irbs[i].Domain != domain || n.Domains[domain].Irb != i {
					t.Fatalf("seed %d: the interface %d is not that of the domain %d", seed, i, domain)
				}
			}
		}
	}
	if found < 1000 || none < 1000 {
		t.Errorf("%d domains with a router, %d without one", found, none)
	}
}
