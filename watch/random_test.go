package watch_test

import (
	"fmt"
	"math/rand"
	"strings"
	"testing"

	"bulwark/api"
	"bulwark/kit"
	"bulwark/link"
)

// maker makes plans, and code that does as much harm as it can.
type maker struct {
	r      *rand.Rand
	label  int
	slots  [][]string // the slots' names of each compartment
	calls  [][]string // of its imports
	driver bool       // the start goes round, and calls
}

func (m *maker) pick(l ...string) string { return l[m.r.Intn(len(l))] }

func (m *maker) next() string {
	m.label++
	return fmt.Sprintf("l%d", m.label)
}

// register is one that code may freely use, now and then one of the others.
func (m *maker) register() string {
	if m.r.Intn(12) == 0 {
		return fmt.Sprintf("c%d", m.r.Intn(16))
	}
	return fmt.Sprintf("c%d", 4+m.r.Intn(12))
}

// source is a register that is likely to have a capability.
func (m *maker) source() string {
	return m.pick("c1", "c2", "c2", "c3", "c3", "c3", m.register(), m.register(), "c10", "c11", "c8", "c9")
}

func (m *maker) eights(from, to int) int { return from + 8*m.r.Intn((to-from)/8+1) }

// arguments puts all sorts of things where arguments stand.
func (m *maker) arguments(c int) string {
	s := ""
	for k := 10; k < 16; k++ {
		switch m.r.Intn(8) {
		case 0, 1:
			s += fmt.Sprintf("c.move c%d %s\n", k, m.source())
		case 2:
			s += fmt.Sprintf("addi c%d c0 %d\n", k, m.r.Intn(4096)-2048)
		case 3:
			s += kit.Slot(m.next(), fmt.Sprintf("c%d", k), m.pick(m.slots[c]...))
		case 4:
			s += fmt.Sprintf("c.incaddrimm c%d %s %d\nc.setboundsimm c%d c%d %d\n", k, m.source(), m.eights(-64, 64), k, k, m.eights(0, 64))
		}
	}
	return s
}

// tame calls an import as one should.
func (m *maker) tame(c int) string {
	if len(m.calls[c]) == 0 {
		return ""
	}
	return m.arguments(c) + kit.Call(m.next(), m.pick(m.calls[c]...))
}

// call calls an import, now and then as nobody should.
func (m *maker) call(c int) string {
	if len(m.calls[c]) == 0 {
		return ""
	}
	l := m.next()
	s := m.arguments(c) + kit.Slot(l+"a", "c6", m.pick(m.calls[c]...)) + kit.Slot(l+"b", "c5", "switch")
	switch m.r.Intn(20) {
	case 0:
		s += "c.move c6 " + m.source() + "\n"
	case 1:
		s += "cjalr c0 0 of c5\n" // as if it were done by who called it
	case 2:
		if m.r.Intn(8) == 0 { // it goes round
			s += "c.move c1 c5\ncjalr c0 0 of c5\n"
		}
	case 3:
		s += "c.move c2 " + m.source() + "\n"
	case 4:
		s += "auipcc c1 0\n" + m.pick("c.sentry c1 c1\n", "") + "cjalr c0 0 of c5\n"
	case 5:
		s += kit.Slot(m.next(), "c6", m.pick(m.slots[c]...))
	case 6:
		s += fmt.Sprintf("c.setaddr c2 c2 c%d\n", m.r.Intn(16))
	}
	return s + "cjalr c1 0 of c5\n"
}

// framed calls with c1, c2 kept: the stack is narrower for the callee.
func (m *maker) framed(c int) string {
	n := m.eights(8, 32)
	return fmt.Sprintf("c.incaddrimm c2 c2 -%d\ncsc c1 0 of c2\n", n) + m.call(c) + fmt.Sprintf("clc c1 0 of c2\nc.incaddrimm c2 c2 %d\n", n)
}

// guarded does something if a register has a tag. Otherwise it would mostly be a trap.
func (m *maker) guarded(register, text string) string {
	if m.r.Intn(12) == 0 {
		return text
	}
	l := m.next()
	return fmt.Sprintf("c.gettag c4 %s\nbeq c4 c0 0 @16 %s\n", register, l) + text + l + ":\n"
}

// place is where something stands behind a register.
func (m *maker) place() int {
	if m.r.Intn(8) == 0 {
		return m.eights(-32, 32)
	}
	return m.eights(0, 8)
}

// bit is some lines.
func (m *maker) bit(c int) string {
	a, b, x, y := m.register(), m.register(), m.source(), m.source()
	switch m.r.Intn(30) {
	case 0, 1:
		return fmt.Sprintf("addi %s %s %d\n", a, b, m.r.Intn(4096)-2048)
	case 2, 3, 4:
		return kit.Slot(m.next(), a, m.pick(m.slots[c]...))
	case 5:
		k := m.r.Intn(4)
		return m.guarded(fmt.Sprintf("c1%d", k), fmt.Sprintf("%s %s %d of c1%d\n", m.pick("lw", "lh", "lb", "lw", "sw", "sb"), a, m.place(), k))
	case 6:
		return m.guarded(x, fmt.Sprintf("%s %s %d of %s\n", m.pick("lw", "lh", "lb", "clc", "lbu"), a, m.place(), x))
	case 7, 8:
		return m.guarded(y, fmt.Sprintf("%s %s %d of %s\n", m.pick("sw", "sh", "sb", "csc", "csc"), m.pick(a, x), m.place(), y))
	case 9:
		return fmt.Sprintf("csc %s %d of c3\n", x, m.eights(0, 24))
	case 10:
		return fmt.Sprintf("clc %s %d of c3\n", a, m.eights(0, 24))
	case 11:
		return fmt.Sprintf("csc %s %d of c2\n", x, m.eights(-32, -8))
	case 12:
		return fmt.Sprintf("clc %s %d of c2\n", a, m.eights(-32, -8))
	case 13:
		return fmt.Sprintf("c.incaddrimm %s %s %d\n", m.pick(a, "c2"), m.pick(x, "c2"), m.eights(-32, 16))
	case 14:
		return fmt.Sprintf("c.setboundsimm %s %s %d\n", a, x, m.eights(0, 64))
	case 15:
		return fmt.Sprintf("addi c4 c0 %d\nc.andperm %s %s c4\n", m.r.Intn(128), a, x)
	case 16:
		return fmt.Sprintf("%s %s %s\n", m.pick("c.move", "c.cleartag", "c.sentry", "c.getaddr", "c.getbase", "c.getlen", "c.gettype"), a, x)
	case 17:
		return fmt.Sprintf("%s %s %s %s\n", m.pick("c.setaddr", "c.incaddr", "c.setbounds", "add", "sub", "c.testsubset"), a, x, b)
	case 18, 19, 20, 21:
		return m.call(c)
	case 22, 23:
		return m.framed(c)
	case 24:
		l := m.next()
		return fmt.Sprintf("%s %s %s 0 @16 %s\n", m.pick("beq", "bne", "blt"), a, b, l) + m.bit(c) + l + ":\n"
	}
	if m.r.Intn(3) > 0 {
		return fmt.Sprintf("clc %s %d of c3\n", a, m.eights(0, 24)) + m.guarded(a, fmt.Sprintf("%s c5 0 of %s\n", m.pick("lw", "sb", "clc", "csc"), a))
	}
	return m.harm(a, x)
}

// harm is what mostly ends by a trap, or leaves.
func (m *maker) harm(a, x string) string {
	switch m.r.Intn(9) {
	case 0:
		return "ecall\n"
	case 1:
		return fmt.Sprintf("cjalr %s %d of %s\n", m.pick("c0", "c1", a), m.pick4(), x)
	case 2:
		return "cjalr c0 0 of c1\n"
	case 3:
		return fmt.Sprintf(".word %d\n", m.r.Uint32())
	case 4:
		return fmt.Sprintf("cjal %s %d\n", m.pick("c0", "c1"), 4*(m.r.Intn(1<<18)-1<<17))
	case 5:
		return fmt.Sprintf("auipcc %s %d\ncjalr c0 0 of %s\n", a, 4096*[]int{-4, -3, -1, 1, 2, 4, 7}[m.r.Intn(7)], a)
	case 6:
		return fmt.Sprintf("%s %s %s c3\n", m.pick("c.seal", "c.unseal"), a, x)
	case 7:
		return m.pick("mret\n", "c.specialrw c4 mtdc c0\n", "c.specialrw c0 mtcc c3\n")
	}
	return fmt.Sprintf("auipcc %s 0\nc.setboundsimm %s %s %d\ncjalr c1 0 of %s\n", a, a, a, m.eights(0, 64), a)
}

func (m *maker) pick4() int { return []int{0, 0, 0, 4, 8, -4}[m.r.Intn(6)] }

// code is a compartment's text.
func (m *maker) code(c, exports int) string {
	var s strings.Builder
	s.WriteString(".section .text 6 4\n")
	for k := range exports {
		fmt.Fprintf(&s, ".global e%d\n", k)
	}
	for k := range exports {
		fmt.Fprintf(&s, "e%d:\n", k)
		if c == 0 && k == 0 && m.driver {
			s.WriteString("go: addi c8 c0 1\n")
			for range 6 {
				s.WriteString(m.pick("", "c.incaddrimm c2 c2 -8\n", "c.setaddr c2 c2 c2\n") + m.tame(c))
			}
			s.WriteString("c.getbase c4 c2\nc.getlen c5 c2\nadd c4 c4 c5\nc.setaddr c2 c2 c4\ncjal c0 0 @17 go\n")
			continue
		}
		for range 2 + m.r.Intn(8) {
			s.WriteString(m.bit(c))
		}
		if m.r.Intn(3) > 0 {
			s.WriteString(m.pick("", "c.move c10 c3\n", "c.move c11 c2\n", "c.move c10 c1\n", "c.incaddrimm c11 c3 8\n") + "cjalr c0 0 of c1\n")
		}
	}
	s.WriteString(m.pick("ecall\n", "cjalr c0 0 of c1\n", "ecall\n", "") + "end: cjal c0 0 @17 end\n.section .data 3 8\n.bytes 32\n")
	return s.String()
}

// image is one of two to four compartments.
func (m *maker) image(t *testing.T) api.Image {
	t.Helper()
	n := 2 + m.r.Intn(3)
	exports := make([]int, n)
	var plan strings.Builder
	fmt.Fprintf(&plan, "stack %d\ntrusted %d\nshare r0 24\nshare r1 8\n", m.eights(64, 200), 1+m.r.Intn(6))
	for c := range n {
		fmt.Fprintf(&plan, "compartment k%d\nobject k%d k%d.o\n", c, c, c)
	}
	for c := range n {
		exports[c] = 1 + m.r.Intn(3)
		for k := range exports[c] {
			args := m.r.Intn(7)
			if c == 0 && k == 0 {
				args = 0
			}
			fmt.Fprintf(&plan, "export k%d e%d %d %d\n", c, k, args, m.eights(0, 64))
		}
	}
	m.slots, m.calls, m.driver = make([][]string, n), make([][]string, n), m.r.Intn(5) > 0
	for c := range n {
		m.slots[c] = []string{"switch"}
		for d := range n {
			for k := range exports[d] {
				if often := 3; m.r.Intn(5) < often && (d > 0 || k > 0 || m.r.Intn(6) == 0) {
					fmt.Fprintf(&plan, "import k%d k%d e%d\n", c, d, k)
					m.calls[c] = append(m.calls[c], fmt.Sprintf("import.k%d.e%d", d, k))
				}
			}
		}
		m.slots[c] = append(m.slots[c], m.calls[c]...)
		for k := range 2 {
			if m.r.Intn(2) == 0 {
				fmt.Fprintf(&plan, "device k%d d%d %d %d\n", c, k, 65280+8*m.r.Intn(4), 4+4*m.r.Intn(4))
				m.slots[c] = append(m.slots[c], fmt.Sprintf("device.d%d", k))
			}
			if m.r.Intn(2) == 0 {
				fmt.Fprintf(&plan, "give k%d r%d %s\n", c, k, m.pick("r", "rw"))
				m.slots[c] = append(m.slots[c], fmt.Sprintf("share.r%d", k))
			}
		}
	}
	plan.WriteString("start k0 e0\n")
	var files []api.File
	for c := range n {
		files = append(files, kit.File(fmt.Sprintf("k%d.o", c), m.code(c, exports[c])))
	}
	i, f := link.Link(plan.String(), files)
	if f != (api.Fault{}) {
		t.Fatalf("%+v\n%s", f, plan.String())
	}
	return i
}

// rounds are such as come now and then.
func (m *maker) rounds(n int) []api.Round {
	l := make([]api.Round, n)
	often := []int{7, 60, 200, 1000, 1000000}[m.r.Intn(5)]
	for k := range l {
		l[k] = api.Round{Timer: m.r.Intn(often) == 0, Answer: m.r.Uint32()}
	}
	return l
}
