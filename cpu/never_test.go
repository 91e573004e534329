package cpu_test

import (
	"math/rand"
	"testing"

	"bulwark/api"
	"bulwark/capa"
	"bulwark/cpu"
	"bulwark/instr"
	"bulwark/memory"
)

// held are the capabilities with a tag of a state and of the first bytes of a memory.
func held(m *memory.Memory, s api.State) []api.Cap {
	l := append([]api.Cap{s.Pcc, s.Mtcc, s.Mtdc, s.Mscratch, s.Mepcc}, s.Regs[:]...)
	for at := uint32(0); at < 512; at += 8 {
		c, _ := m.LoadCap(at)
		l = append(l, c)
	}
	var tagged []api.Cap
	for _, c := range l {
		if c.Tag {
			tagged = append(tagged, c)
		}
	}
	return tagged
}

// comes tells whether a capability may come of those that were there.
func comes(c api.Cap, were []api.Cap, system bool) bool {
	for _, w := range were {
		if c == w {
			return true
		}
		free := c.Type <= api.SentryOn && w.Type <= api.SentryOn
		if capa.Subset(c, w) && (free || c.Type == w.Type || system) {
			return true
		}
	}
	return false
}

// had tells whether one of those that were there had the right to what was touched.
func had(x api.Touch, were []api.Cap) bool {
	perm := map[int]uint8{api.TouchFetch: api.PermExec, api.TouchLoad: api.PermLoad, api.TouchStore: api.PermStore}[x.What]
	for _, w := range were {
		if capa.May(w, perm, uint64(x.At), uint64(x.N)) {
			return true
		}
	}
	return false
}

// Of whatever words, whatever is held: nothing more comes to be held, and nothing else is touched.
func TestNeverMore(t *testing.T) {
	r := rand.New(rand.NewSource(7))
	for range 4000 {
		m := memory.New()
		code := root(t, 256, 512, []uint8{29, 88, 127}[r.Intn(3)])
		for at := uint32(256); at < 512; at += 4 {
			i := api.Instr{Op: api.Op(1 + r.Intn(int(api.Mret))), Rd: uint8(r.Intn(16)), Rs1: uint8(r.Intn(16)), Rs2: uint8(r.Intn(16)), Imm: int32(r.Intn(8)) * 8}
			w, e := instr.Put(i)
			for e != api.OK {
				i.Rd, i.Rs2 = i.Rd*uint8(r.Intn(2)), i.Rs2*uint8(r.Intn(2))
				i.Rs1 *= uint8(r.Intn(2))
				i.Imm = []int32{0, 4096, 28, 29}[r.Intn(4)]
				w, e = instr.Put(i)
			}
			m.Store(at, 4, w)
		}
		s := cpu.Start(code)
		s.On, s.Mtcc = r.Intn(2) == 0, capa.SetAddr(code, 300)
		for k := 1; k < 16; k++ {
			c := root(t, uint64(8*r.Intn(16)), uint64(256+8*r.Intn(16)), uint8(r.Intn(128)))
			s.Regs[k] = []api.Cap{c, capa.Seal(c, uint32(r.Intn(8))), capa.Int(uint32(r.Intn(600))), code}[r.Intn(4)]
		}
		for range 40 {
			were, system := held(m, s), s.Pcc.Perms&api.PermSystem != 0
			n, d, _ := cpu.Step(m, s, r.Intn(8) == 0, r.Uint32())
			for _, c := range held(m, n) {
				if !comes(c, were, system) {
					t.Fatalf("%v came of nothing: %+v behind %+v", c, n, s)
				}
			}
			for _, x := range d.Touched {
				if !had(x, were) {
					t.Fatalf("%+v: without the right", x)
				}
			}
			s = n
		}
	}
}
