// Package outset tells how the machine of an image begins, where more than one layer asks for it.
package outset

import (
	"bulwark/api"
	"bulwark/capa"
	"bulwark/gate"
	"bulwark/tables"
)

// Permissions of what a machine begins with.
const (
	permsCode   = api.PermLoad | api.PermCap | api.PermExec | api.PermGlobal
	permsData   = api.PermLoad | api.PermStore | api.PermCap | api.PermGlobal
	permsStack  = api.PermLoad | api.PermStore | api.PermCap | api.PermLocal
	permsSwitch = api.PermExec | api.PermGlobal | api.PermSystem
)

const nobody = -1

// maker makes capabilities of regions, and keeps the first error.
type maker struct {
	regions []api.Region
	e       api.Errno
}

// cap is the capability of a region, at a place that is told of it.
func (m *maker) cap(kind uint8, owner int, perms uint8, at func(r api.Region) uint32) api.Cap {
	r, there := tables.Region(m.regions, kind, owner)
	if !there && m.e == api.OK {
		m.e = api.ErrNone
	}
	c, e := tables.Cap(r, perms, at(r))
	if m.e == api.OK {
		m.e = e
	}
	return c
}

func base(r api.Region) uint32 { return r.At }

func top(r api.Region) uint32 { return r.At + r.N }

// label tells where a line of the switcher stands.
func label(name string) func(r api.Region) uint32 {
	return func(r api.Region) uint32 {
		at, _ := gate.Place(name)
		return r.At + at
	}
}

// State answers the machine as it begins in a compartment, at a place of its code.
func State(regions []api.Region, c int, main uint32) (api.State, api.Errno) {
	m := maker{regions: regions}
	s := api.State{
		Pcc:  m.cap(api.RegCode, c, permsCode, func(api.Region) uint32 { return main }),
		Mtcc: m.cap(api.RegSwitch, nobody, permsSwitch, label("trap")),
		Mtdc: m.cap(api.RegTrusted, nobody, permsStack, base),
		On:   true,
	}
	s.Regs[1] = capa.Seal(m.cap(api.RegSwitch, nobody, permsSwitch, label("back")), api.SentryOff)
	s.Regs[2] = m.cap(api.RegStack, nobody, permsStack, top)
	s.Regs[3] = m.cap(api.RegData, c, permsData, base)
	if m.e != api.OK {
		return api.State{}, m.e
	}
	return s, api.OK
}
