package stmt

import "paling/api"

// fields are a line's fields.
// A field's method exchanges what the field has for a value, so that one method puts what is read, and takes out what is asked.
type fields struct{ api.Line }

// parts are the words that a line of its kind has behind the first one, none where there is no such kind.
func (f *fields) parts(tagged bool) []part {
	switch f.Kind {
	case api.LDevice:
		return []part{{aName, f.dev}, {aPriority, f.number}, {aMac, f.mac}}
	case api.LPort:
		head := []part{{aName, f.dev}, {aName, f.port}, {aCost, f.cost}, {aMode, f.mode}}
		if tagged {
			return append(head, part{aVlanOrNone, f.vlan}, part{vlansOrNone, f.tagged})
		}
		return append(head, part{aVlan, f.vlan})
	case api.LLink:
		return []part{{aName, f.dev}, {aName, f.port}, {aName, f.peer}, {aName, f.far}}
	case api.LStatic:
		return []part{{aName, f.dev}, {aVlan, f.vlan}, {aMac, f.mac}, {aName, f.port}}
	case api.LVtep:
		return []part{{aName, f.dev}, {anAddr, f.addr}}
	case api.LVni:
		return []part{{aName, f.dev}, {aVlan, f.vlan}, {aVni, f.number}}
	case api.LFlood:
		return []part{{aName, f.dev}, {aVni, f.number}, {someAddrs, f.addrs}}
	case api.LVrf:
		return []part{{aName, f.dev}, {aName, f.name}, {targetsOrNone, f.imports}, {targetsOrNone, f.exports}}
	case api.LIrb:
		return []part{{aName, f.dev}, {aVlan, f.vlan}, {aName, f.name}, {aPrefix, f.prefix}}
	}
	return nil
}

func (f *fields) dev(v *value) { f.Dev, v.text = v.text, f.Dev }

func (f *fields) port(v *value) { f.Port, v.text = v.text, f.Port }

func (f *fields) peer(v *value) { f.Peer, v.text = v.text, f.Peer }

func (f *fields) far(v *value) { f.Far, v.text = v.text, f.Far }

func (f *fields) name(v *value) { f.Name, v.text = v.text, f.Name }

// mode has no field. Whatever may be said of an access port may be said of a trunk, so that a line is asked as a trunk's.
func (f *fields) mode(v *value) { v.text = trunk }

func (f *fields) number(v *value) { f.Num, v.n = v.n, f.Num }

func (f *fields) vlan(v *value) { f.Vlan, v.n = v.n, f.Vlan }

func (f *fields) cost(v *value) { f.Cost, v.n = v.n, f.Cost }

func (f *fields) mac(v *value) { f.Mac, v.mac = v.mac, f.Mac }

func (f *fields) addr(v *value) { f.Addr, v.addr = v.addr, f.Addr }

func (f *fields) prefix(v *value) {
	f.addr(v)
	f.Bits, v.n = v.n, f.Bits
}

func (f *fields) tagged(v *value) { f.Tagged, v.list = v.list, f.Tagged }

func (f *fields) imports(v *value) { f.Imports, v.list = v.list, f.Imports }

func (f *fields) exports(v *value) { f.Exports, v.list = v.list, f.Exports }

func (f *fields) addrs(v *value) { f.Addrs, v.addrs = v.addrs, f.Addrs }
