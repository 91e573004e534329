package cpu_test

import (
	"math"
	"reflect"
	"testing"

	"bulwark/api"
	"bulwark/capa"
	"bulwark/cpu"
	"bulwark/instr"
	"bulwark/memory"
)

const minus = math.MaxUint32

func root(t *testing.T, base, top uint64, perms uint8) api.Cap {
	t.Helper()
	c, e := capa.Root(base, top, perms)
	if e != api.OK {
		t.Fatalf("Root(%d, %d): %d", base, top, e)
	}
	return c
}

// at makes a memory in which words stand from 4096 on, and a state that stands there.
func at(t *testing.T, perms uint8, l ...api.Instr) (*memory.Memory, api.State) {
	t.Helper()
	m := memory.New()
	for k, i := range l {
		w, e := instr.Put(i)
		if e != api.OK {
			t.Fatalf("%v: %d", i, e)
		}
		m.Store(uint32(4096+4*k), 4, w)
	}
	return m, cpu.Start(root(t, 4096, 8192, perms))
}

func step(t *testing.T, m *memory.Memory, s api.State) (api.State, api.Done) {
	t.Helper()
	n, d, e := cpu.Step(m, s, false, 0)
	if e != api.OK {
		t.Fatalf("Step: %d", e)
	}
	return n, d
}

var fetched = []api.Touch{{What: api.TouchFetch, At: 4096, N: 4}}

// goes checks that a step answers that state, without a trap, having fetched alone.
func goes(t *testing.T, name string, m *memory.Memory, s, want api.State) {
	t.Helper()
	want.Pcc = capa.SetAddr(want.Pcc, want.Pcc.Addr+4)
	n, d := step(t, m, s)
	if n != want || !reflect.DeepEqual(d, api.Done{Touched: fetched}) {
		t.Errorf("%s: %+v, %+v, not %+v", name, n, d, want)
	}
}

// traps checks that a step traps with that cause, and changes nothing else.
func traps(t *testing.T, name string, m *memory.Memory, s api.State, cause uint32, touched []api.Touch) {
	t.Helper()
	s.Mtcc, s.On, s.Cause, s.Mepcc = root(t, 0, 64, 72), true, 99, capa.Int(5)
	before := m.Copy()
	want := s
	want.Mepcc, want.Cause, want.Was, want.On, want.Pcc = s.Pcc, cause, true, false, s.Mtcc
	n, d := step(t, m, s)
	if n != want || !reflect.DeepEqual(d, api.Done{Cause: cause, Touched: touched}) {
		t.Errorf("%s: %+v, %+v", name, n, d)
	}
	if !reflect.DeepEqual(before, m) {
		t.Errorf("%s: a trap changed memory", name)
	}
}

func TestExamples(t *testing.T) {
	m, s := at(t, 9, api.Instr{Op: api.Addi, Rd: 1, Imm: 5})
	n, d := step(t, m, s)
	if n.Regs[1] != capa.Int(5) || n.Pcc.Addr != 4100 || d.Cause != 0 {
		t.Errorf("%+v, %+v", n, d)
	}
	n, d = step(t, m, cpu.Start(capa.Null()))
	if d.Cause != api.CauseFetch || !n.Halted || d.Touched != nil {
		t.Errorf("%+v, %+v", n, d)
	}
	n, d, _ = cpu.Step(m, s, true, 0)
	if d.Cause != 0 || n.Regs[1].Addr != 5 {
		t.Errorf("timer: %+v", d)
	}
}

func TestNoMemory(t *testing.T) {
	_, s := at(t, 9)
	for _, m := range []*memory.Memory{nil, {}} {
		n, d, e := cpu.Step(m, s, true, 1)
		if e != api.ErrNil || n != (api.State{}) || !reflect.DeepEqual(d, api.Done{}) {
			t.Errorf("%+v, %+v, %d", n, d, e)
		}
	}
}

func TestStart(t *testing.T) {
	p := root(t, 4096, 8192, 9)
	if cpu.Start(p) != (api.State{Pcc: p}) {
		t.Error("Start")
	}
}

func TestTimerAndHalted(t *testing.T) {
	m, s := at(t, 9, api.Instr{Op: api.Addi, Rd: 1, Imm: 5})
	s.On, s.Mtcc = true, root(t, 64, 128, 72)
	want := s
	want.Mepcc, want.Cause, want.Was, want.On, want.Pcc = s.Pcc, api.CauseTimer, true, false, s.Mtcc
	n, d, e := cpu.Step(m, s, true, 0)
	if n != want || e != api.OK || !reflect.DeepEqual(d, api.Done{Cause: api.CauseTimer}) {
		t.Errorf("timer: %+v, %+v", n, d)
	}
	for _, mtcc := range []api.Cap{capa.ClearTag(s.Mtcc), capa.Sentry(s.Mtcc)} {
		s.Mtcc = mtcc
		n, _, _ = cpu.Step(m, s, true, 0)
		if !n.Halted || n.Pcc != mtcc || n.Mepcc != s.Pcc {
			t.Errorf("Mtcc %v: %+v", mtcc, n)
		}
		again, d, e := cpu.Step(m, n, true, 7)
		if again != n || e != api.OK || !reflect.DeepEqual(d, api.Done{}) {
			t.Errorf("halted: %+v, %+v", again, d)
		}
	}
}

func TestFetch(t *testing.T) {
	m, s := at(t, 9, api.Instr{Op: api.Addi, Rd: 1, Imm: 5})
	for name, pcc := range map[string]api.Cap{
		"no tag":      capa.ClearTag(s.Pcc),
		"sealed":      capa.Sentry(s.Pcc),
		"no right":    capa.AndPerms(s.Pcc, 1),
		"odd":         capa.SetAddr(s.Pcc, 4098),
		"behind":      capa.SetAddr(s.Pcc, 8192),
		"too short":   capa.SetBounds(s.Pcc, 3),
		"a device's":  root(t, 65280, 65536, 9),
		"no memory's": {Tag: true, Addr: 65536, Perms: 9, Bounds: api.Bounds{E: 12, T: 32}},
	} {
		s.Pcc = pcc
		traps(t, name, m, s, api.CauseFetch, nil)
	}
	s.Pcc = capa.SetAddr(root(t, 4096, 8192, 9), 4100)
	traps(t, "no instruction", m, s, api.CauseInstr, []api.Touch{{What: api.TouchFetch, At: 4100, N: 4}})
	m.Store(65276, 4, 0x00500093)
	s.Pcc = capa.SetAddr(root(t, 65024, 65536, 9), 65276)
	if n, d := step(t, m, s); d.Cause != 0 || n.Pcc.Addr != 65280 {
		t.Errorf("the last word ahead of the devices: %+v", d)
	}
}

func TestRegisterNought(t *testing.T) {
	m, s := at(t, 9, api.Instr{Op: api.Addi, Rd: 0, Rs1: 0, Imm: 5}, api.Instr{Op: api.Addi, Rd: 1, Rs1: 0, Imm: 5})
	want := s
	s.Regs[0] = root(t, 0, 64, 39)
	goes(t, "lost", m, s, want)
	s.Pcc, want.Pcc = capa.SetAddr(s.Pcc, 4100), capa.SetAddr(s.Pcc, 4104)
	want.Regs[1] = capa.Int(5)
	if n, _ := step(t, m, s); n != want {
		t.Errorf("read: %+v", n)
	}
}

func TestNumbers(t *testing.T) {
	r := root(t, 4096, 8192, 39)
	for _, c := range []struct {
		i    api.Instr
		want uint32
	}{
		{api.Instr{Op: api.Lui, Rd: 3, Imm: -4096}, minus - 4095},
		{api.Instr{Op: api.Addi, Rd: 3, Rs1: 1, Imm: -1}, 4095},
		{api.Instr{Op: api.Sltiu, Rd: 3, Rs1: 1, Imm: -1}, 1},
		{api.Instr{Op: api.Srai, Rd: 3, Rs1: 2, Imm: 1}, minus - 3},
		{api.Instr{Op: api.Add, Rd: 1, Rs1: 1, Rs2: 2}, 4089},
		{api.Instr{Op: api.Sub, Rd: 3, Rs1: 2, Rs2: 1}, minus - 6 - 4096},
		{api.Instr{Op: api.Remu, Rd: 3, Rs1: 1, Rs2: 0}, 4096},
		{api.Instr{Op: api.Mul, Rd: 2, Rs1: 2, Rs2: 2}, 49},
		{api.Instr{Op: api.Sltu, Rd: 15, Rs1: 1, Rs2: 2}, 1},
	} {
		m, s := at(t, 9, c.i)
		s.Regs[1], s.Regs[2] = r, capa.Int(minus-6)
		want := s
		want.Regs[c.i.Rd] = capa.Int(c.want)
		goes(t, "number", m, s, want)
	}
}

func TestAuipccAndBranches(t *testing.T) {
	for _, imm := range []int32{0, 4096, -4096, 1 << 20, math.MinInt32} {
		m, s := at(t, 9, api.Instr{Op: api.Auipcc, Rd: 4, Imm: imm})
		want := s
		want.Regs[4] = capa.SetAddr(s.Pcc, 4096+uint32(imm))
		goes(t, "auipcc", m, s, want)
	}
	for _, c := range []struct {
		o     api.Op
		taken bool
	}{{api.Beq, false}, {api.Bne, true}, {api.Blt, true}, {api.Bge, false}, {api.Bltu, false}, {api.Bgeu, true}} {
		m, s := at(t, 9, api.Instr{Op: c.o, Rs1: 1, Rs2: 2, Imm: 64})
		s.Regs[1], s.Regs[2] = capa.Int(minus), capa.Int(1)
		want := s
		if c.taken {
			want.Pcc = capa.SetAddr(s.Pcc, 4096+60)
		}
		goes(t, "branch", m, s, want)
	}
	m, s := at(t, 9, api.Instr{Op: api.Beq, Imm: -4096})
	if n, _ := step(t, m, s); n.Pcc != capa.SetAddr(s.Pcc, 0) || n.Pcc.Tag {
		t.Errorf("far away: %v", n.Pcc)
	}
}

func TestCjal(t *testing.T) {
	for _, on := range []bool{false, true} {
		m, s := at(t, 9, api.Instr{Op: api.Cjal, Rd: 1, Imm: 8})
		s.On = on
		link := capa.SetAddr(s.Pcc, 4100)
		link.Type = api.SentryOff
		if on {
			link.Type = api.SentryOn
		}
		want := s
		want.Regs[1] = link
		want.Pcc = capa.SetAddr(s.Pcc, 4100)
		goes(t, "cjal", m, s, want)
	}
}

func TestCjalr(t *testing.T) {
	to := root(t, 64, 128, 88)
	for _, on := range []bool{false, true} {
		for kind := range uint8(4) {
			m, s := at(t, 9, api.Instr{Op: api.Cjalr, Rd: 1, Rs1: 1})
			s.On, s.Regs[1] = on, to
			s.Regs[1].Type = kind
			want := s
			want.Regs[1] = capa.SetAddr(s.Pcc, 4100)
			want.Regs[1].Type = api.SentryOff
			if on {
				want.Regs[1].Type = api.SentryOn
			}
			want.On = on && kind != api.SentryOff || kind == api.SentryOn
			want.Pcc = to
			n, d := step(t, m, s)
			if n != want || !reflect.DeepEqual(d, api.Done{Touched: fetched}) {
				t.Errorf("type %d: %+v", kind, n)
			}
		}
	}
	m, s := at(t, 9, api.Instr{Op: api.Cjalr, Rs1: 1, Imm: -3})
	s.Regs[1] = capa.SetAddr(to, 72)
	want := s
	want.Pcc = capa.SetAddr(to, 69)
	if n, _ := step(t, m, s); n != want {
		t.Errorf("with Imm: %+v", n)
	}
	s.Regs[1] = capa.Seal(to, api.SentryOff)
	traps(t, "a sentry with Imm", m, s, api.CauseJump, fetched)
	m, s = at(t, 9, api.Instr{Op: api.Cjalr, Rd: 1, Rs1: 1})
	for _, c := range []api.Cap{capa.Null(), capa.ClearTag(to), capa.AndPerms(to, 119), capa.Seal(to, 4), capa.Seal(to, 7)} {
		s.Regs[1] = c
		traps(t, "jump", m, s, api.CauseJump, fetched)
	}
}

func TestLoads(t *testing.T) {
	for _, c := range []struct {
		o    api.Op
		imm  int32
		n    int
		want uint32
	}{
		{api.Lb, 0, 1, minus - 0x7e}, {api.Lb, 3, 1, 0x44}, {api.Lbu, 0, 1, 0x81}, {api.Lh, 0, 2, 0xffff8281}, {api.Lhu, 0, 2, 0x8281}, {api.Lh, 2, 2, 0x4483}, {api.Lw, 0, 4, 0x44838281}, {api.Lw, -4, 4, 0},
	} {
		m, s := at(t, 9, api.Instr{Op: c.o, Rd: 2, Rs1: 1, Imm: c.imm})
		m.Store(8, 4, 0x44838281)
		s.Regs[1] = capa.SetAddr(root(t, 0, 64, 1), 8)
		want := s
		want.Regs[2] = capa.Int(c.want)
		want.Pcc = capa.SetAddr(s.Pcc, 4100)
		n, d := step(t, m, s)
		touched := append([]api.Touch{fetched[0]}, api.Touch{What: api.TouchLoad, At: 8 + uint32(c.imm), N: c.n})
		if n != want || !reflect.DeepEqual(d, api.Done{Touched: touched}) {
			t.Errorf("%d at %d: %v, %+v", c.o, c.imm, n.Regs[2], d)
		}
	}
	m, s := at(t, 9, api.Instr{Op: api.Clc, Rd: 1, Rs1: 1, Imm: 8})
	r := root(t, 4096, 8192, 39)
	m.StoreCap(16, r)
	s.Regs[1] = capa.SetAddr(root(t, 0, 64, 5), 8)
	n, d := step(t, m, s)
	if n.Regs[1] != r || !reflect.DeepEqual(d.Touched, []api.Touch{fetched[0], {What: api.TouchLoad, At: 16, N: 8}}) {
		t.Errorf("clc: %v, %+v", n.Regs[1], d)
	}
}

func TestLoadsAndStoresTrap(t *testing.T) {
	good := capa.SetAddr(root(t, 0, 64, 127), 8)
	wide := api.Cap{Tag: true, Perms: 127, Bounds: api.Bounds{E: 15, T: 256}}
	ofAddr := func(a uint32) api.Cap { c := wide; c.Addr = a; return c }
	for _, o := range []api.Op{api.Lb, api.Lbu, api.Lh, api.Lhu, api.Lw, api.Clc, api.Sb, api.Sh, api.Sw, api.Csc} {
		i := api.Instr{Op: o, Rs1: 1, Imm: 0}
		perm, cause := uint32(api.PermLoad), uint32(api.CauseLoad)
		if o >= api.Sb && o <= api.Csc {
			perm, cause = api.PermStore, api.CauseStore
			i.Rs2 = 2
		} else {
			i.Rd = 2
		}
		size := map[api.Op]uint32{api.Lb: 1, api.Lbu: 1, api.Sb: 1, api.Lh: 2, api.Lhu: 2, api.Sh: 2, api.Clc: 8, api.Csc: 8}[o]
		if size == 0 {
			size = 4
		}
		m, s := at(t, 9, i)
		bad := []api.Cap{capa.ClearTag(good), capa.Seal(good, 4), capa.Sentry(good), capa.AndPerms(good, 127&^perm), capa.SetAddr(good, 64), capa.Null(),
			ofAddr(65536), ofAddr(65536 + 8), ofAddr(1<<20 - 8)}
		if size > 1 {
			bad = append(bad, capa.SetAddr(good, 8+size/2), capa.SetBounds(good, size-1), capa.SetAddr(good, 65))
		}
		if size == 8 {
			bad = append(bad, capa.AndPerms(good, 127&^api.PermCap), capa.SetAddr(good, 12))
		}
		if size != 4 {
			bad = append(bad, ofAddr(65280), ofAddr(65528))
		}
		for k, c := range bad {
			s.Regs[1] = c
			traps(t, "trap "+string(rune('a'+k)), m, s, cause, fetched)
		}
		for _, c := range []api.Cap{good, capa.SetAddr(good, 64-size), ofAddr(65280 - 8), capa.AndPerms(good, perm|api.PermCap)} {
			s.Regs[1] = c
			if _, d := step(t, m, s); d.Cause != 0 || len(d.Touched) != 2 || d.Touched[1].N != int(size) {
				t.Errorf("%d at %d: %+v", o, c.Addr, d)
			}
		}
	}
	m, s := at(t, 9, api.Instr{Op: api.Lw, Rd: 2, Rs1: 1, Imm: 4})
	s.Regs[1] = capa.SetAddr(api.Cap{Tag: true, Perms: 127, Addr: minus, Bounds: api.Bounds{E: 15, B: 0, T: 511}}, minus-3)
	traps(t, "an address that goes round", m, s, api.CauseLoad, fetched)
}

func TestStores(t *testing.T) {
	for _, c := range []struct {
		o    api.Op
		n    int
		want uint32
	}{{api.Sb, 1, 0x55555504}, {api.Sh, 2, 0x55550304}, {api.Sw, 4, 0x01020304}} {
		m, s := at(t, 9, api.Instr{Op: c.o, Rs1: 1, Rs2: 2, Imm: -8})
		m.StoreCap(16, root(t, 0, 64, 39))
		m.Store(16, 4, 0x55555555)
		m.StoreCap(24, root(t, 0, 64, 39))
		s.Regs[1], s.Regs[2] = capa.SetAddr(root(t, 0, 64, 2), 24), capa.Int(0x01020304)
		want := s
		want.Pcc = capa.SetAddr(s.Pcc, 4100)
		n, d := step(t, m, s)
		got, _ := m.Load(16, 4)
		tags, _ := m.Tags(0, 64)
		if n != want || got != c.want || tags != 1 || !reflect.DeepEqual(d, api.Done{Touched: []api.Touch{fetched[0], {What: api.TouchStore, At: 16, N: c.n}}}) {
			t.Errorf("%d: %x, %d tags, %+v", c.o, got, tags, d)
		}
	}
}

func TestCsc(t *testing.T) {
	global, local := root(t, 0, 64, 23), root(t, 0, 64, 39)
	for i, c := range []struct {
		what, by api.Cap
		ok       bool
	}{
		{global, root(t, 0, 64, 6), true}, {local, root(t, 0, 64, 6), false}, {local, root(t, 0, 64, 38), true}, {capa.ClearTag(local), root(t, 0, 64, 6), true},
		{capa.Int(7), root(t, 0, 64, 6), true}, {global, root(t, 0, 64, 2), false}, {capa.Seal(global, 4), root(t, 0, 64, 6), true}, {capa.Seal(local, 4), root(t, 0, 64, 6), false},
	} {
		m, s := at(t, 9, api.Instr{Op: api.Csc, Rs1: 1, Rs2: 2, Imm: 8})
		s.Regs[1], s.Regs[2] = c.by, c.what
		if !c.ok {
			traps(t, "csc", m, s, api.CauseStore, fetched)
			continue
		}
		_, d := step(t, m, s)
		if got, _ := m.LoadCap(8); got != c.what || d.Cause != 0 || !reflect.DeepEqual(d.Touched, []api.Touch{fetched[0], {What: api.TouchStore, At: 8, N: 8}}) {
			t.Errorf("%d: %v, %+v", i, got, d)
		}
	}
}

func TestDevices(t *testing.T) {
	for _, a := range []uint32{65280, 65284, 65532} {
		m, s := at(t, 9, api.Instr{Op: api.Lw, Rd: 2, Rs1: 1}, api.Instr{Op: api.Sw, Rs1: 1, Rs2: 2})
		s.Regs[1] = capa.SetAddr(root(t, 65280, 65536, 3), a)
		n, d, e := cpu.Step(m, s, false, 0x87654321)
		if n.Regs[2] != capa.Int(0x87654321) || e != api.OK || !reflect.DeepEqual(d, api.Done{Touched: []api.Touch{fetched[0], {What: api.TouchLoad, At: a, N: 4}}}) {
			t.Errorf("load at %d: %+v", a, d)
		}
		before := m.Copy()
		n.Regs[2] = root(t, 4096, 8192, 39)
		_, d = step(t, m, n)
		want := api.Done{Touched: []api.Touch{{What: api.TouchFetch, At: 4100, N: 4}, {What: api.TouchStore, At: a, N: 4}}, Told: true, Out: 4096, To: a}
		if !reflect.DeepEqual(d, want) || !reflect.DeepEqual(m, before) {
			t.Errorf("store at %d: %+v", a, d)
		}
	}
}

func TestTold(t *testing.T) {
	r := capa.Seal(capa.SetAddr(root(t, 4096, 8192, 39), 5000), 4)
	huge := api.Cap{Addr: 7, Bounds: api.Bounds{E: 15, B: 1, T: 0}}
	for _, c := range []struct {
		o    api.Op
		c    api.Cap
		want uint32
	}{
		{api.CGetAddr, r, 5000}, {api.CGetBase, r, 4096}, {api.CGetLen, r, 4096}, {api.CGetPerm, r, 39}, {api.CGetType, r, 4}, {api.CGetTag, r, 1}, {api.CGetTag, capa.Int(3), 0},
		{api.CGetLen, huge, 511 << 15}, {api.CGetBase, huge, uint32(capa.Base(huge))}, {api.CGetLen, capa.Null(), 0},
	} {
		m, s := at(t, 9, api.Instr{Op: c.o, Rd: 2, Rs1: 1})
		s.Regs[1] = c.c
		want := s
		want.Regs[2] = capa.Int(c.want)
		goes(t, "told", m, s, want)
	}
}

func TestMade(t *testing.T) {
	r := root(t, 4096, 8192, 47)
	for name, c := range map[string]struct {
		i    api.Instr
		n    uint32
		want api.Cap
	}{
		"move":      {api.Instr{Op: api.CMove}, 0, r},
		"cleartag":  {api.Instr{Op: api.CClearTag}, 0, capa.ClearTag(r)},
		"sentry":    {api.Instr{Op: api.CSentry}, 0, capa.Sentry(r)},
		"setaddr":   {api.Instr{Op: api.CSetAddr, Rs2: 2}, 4100, capa.SetAddr(r, 4100)},
		"away":      {api.Instr{Op: api.CSetAddr, Rs2: 2}, 100, capa.SetAddr(r, 100)},
		"incaddr":   {api.Instr{Op: api.CIncAddr, Rs2: 2}, 8, capa.SetAddr(r, 4104)},
		"down":      {api.Instr{Op: api.CIncAddr, Rs2: 2}, minus, capa.SetAddr(r, 4095)},
		"setbounds": {api.Instr{Op: api.CSetBounds, Rs2: 2}, 16, capa.SetBounds(r, 16)},
		"too much":  {api.Instr{Op: api.CSetBounds, Rs2: 2}, 4097, capa.SetBounds(r, 4097)},
		"andperm":   {api.Instr{Op: api.CAndPerm, Rs2: 2}, 5, capa.AndPerms(r, 5)},
		"incimm":    {api.Instr{Op: api.CIncAddrImm, Imm: -1}, 0, capa.SetAddr(r, 4095)},
		"boundsimm": {api.Instr{Op: api.CSetBoundsImm, Imm: 4080}, 0, capa.SetBounds(r, 4080)},
	} {
		c.i.Rd, c.i.Rs1 = 3, 1
		m, s := at(t, 9, c.i)
		s.Regs[1], s.Regs[2] = r, root(t, 0, 65536, 127)
		s.Regs[2].Addr = c.n
		want := s
		want.Regs[3] = c.want
		goes(t, name, m, s, want)
	}
	for _, c := range []struct {
		a, b api.Cap
		want uint32
	}{{r, capa.SetBounds(r, 8), 1}, {capa.SetBounds(r, 8), r, 0}, {r, r, 1}, {r, capa.Null(), 0}} {
		m, s := at(t, 9, api.Instr{Op: api.CTestSubset, Rd: 3, Rs1: 1, Rs2: 2})
		s.Regs[1], s.Regs[2] = c.a, c.b
		want := s
		want.Regs[3] = capa.Int(c.want)
		goes(t, "testsubset", m, s, want)
	}
}

func TestSystem(t *testing.T) {
	r := root(t, 0, 64, 39)
	for _, i := range []api.Instr{{Op: api.CSeal, Rd: 3, Rs1: 1, Rs2: 2}, {Op: api.CUnseal, Rd: 3, Rs1: 1}, {Op: api.CSpecialRw, Rd: 3, Rs1: 1, Imm: 28}, {Op: api.CSpecialRw, Imm: 27}, {Op: api.Mret}} {
		m, s := at(t, 63, i)
		traps(t, "system", m, s, api.CauseSystem, fetched)
	}
	m, s := at(t, 72, api.Instr{Op: api.CSeal, Rd: 3, Rs1: 1, Rs2: 2})
	s.Regs[1], s.Regs[2] = r, capa.Int(12)
	want := s
	want.Regs[3] = capa.Seal(r, 12)
	goes(t, "seal", m, s, want)
	m, s = at(t, 72, api.Instr{Op: api.CUnseal, Rd: 3, Rs1: 1})
	s.Regs[1] = capa.Seal(r, 4)
	want = s
	want.Regs[3] = r
	goes(t, "unseal", m, s, want)
	m, s = at(t, 72, api.Instr{Op: api.Mret})
	s.Mepcc, s.Was = capa.Seal(r, 1), true
	want = s
	want.Pcc, want.On = s.Mepcc, true
	if n, d := step(t, m, s); n != want || !reflect.DeepEqual(d, api.Done{Touched: fetched}) {
		t.Errorf("mret: %+v", n)
	}
}

func TestSpecials(t *testing.T) {
	r, fill := root(t, 0, 64, 39), func(s api.State) api.State {
		s.Mtcc, s.Mtdc, s.Mscratch, s.Mepcc, s.Cause = capa.Int(1), capa.Int(2), capa.Int(3), capa.Int(4), 9
		return s
	}
	for imm := int32(27); imm <= 31; imm++ {
		for _, rs1 := range []uint8{0, 1, 3} {
			m, s := at(t, 72, api.Instr{Op: api.CSpecialRw, Rd: 3, Rs1: rs1, Imm: imm})
			s = fill(s)
			s.Regs[1], s.Regs[3] = r, capa.Sentry(r)
			want := s
			for k, p := range map[int32]*api.Cap{28: &want.Mtcc, 29: &want.Mtdc, 30: &want.Mscratch, 31: &want.Mepcc} {
				if k == imm {
					want.Regs[3] = *p
					if rs1 != 0 {
						*p = s.Regs[rs1]
					}
				}
			}
			if imm == 27 {
				want.Regs[3] = capa.Int(9)
			}
			goes(t, "special", m, s, want)
		}
	}
}

func TestEcall(t *testing.T) {
	m, s := at(t, 127, api.Instr{Op: api.Ecall})
	traps(t, "ecall", m, s, api.CauseCall, fetched)
}
