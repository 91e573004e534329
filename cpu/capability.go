package cpu

import (
	"bulwark/api"
	"bulwark/capa"
)

// highest is the greatest number that a register tells.
const highest = 1<<32 - 1

// capability does what makes a capability of one, or tells something of it.
func (w *work) capability() {
	c, n := w.rs1(), w.rs2().Addr
	switch w.i.Op {
	case api.CMove:
		w.set(c)
	case api.CClearTag:
		w.set(capa.ClearTag(c))
	case api.CSentry:
		w.set(capa.Sentry(c))
	case api.CSetAddr:
		w.set(capa.SetAddr(c, n))
	case api.CAndPerm:
		w.set(capa.AndPerms(c, n))
	case api.CIncAddrImm:
		n = w.imm()
		fallthrough
	case api.CIncAddr:
		w.set(capa.SetAddr(c, c.Addr+n))
	case api.CSetBoundsImm:
		n = w.imm()
		fallthrough
	case api.CSetBounds:
		w.set(capa.SetBounds(c, n))
	case api.CTestSubset:
		w.set(capa.Int(flag(capa.Subset(w.rs2(), c))))
	default:
		w.set(capa.Int(told(w.i.Op, c)))
	}
}

// told is what is told of a capability.
func told(o api.Op, c api.Cap) uint32 {
	switch o {
	case api.CGetBase:
		return uint32(capa.Base(c))
	case api.CGetLen:
		return uint32(min(capa.Top(c)-capa.Base(c), highest))
	case api.CGetPerm:
		return uint32(c.Perms)
	case api.CGetType:
		return uint32(c.Type)
	case api.CGetTag:
		return flag(c.Tag)
	}
	return c.Addr
}

// flag is what holds as a number.
func flag(is bool) uint32 {
	if is {
		return 1
	}
	return 0
}
