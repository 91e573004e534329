package run_test

import (
	"reflect"
	"testing"

	"bulwark/api"
	"bulwark/capa"
	"bulwark/cpu"
	"bulwark/gate"
	"bulwark/kit"
	"bulwark/link"
	"bulwark/memory"
	"bulwark/run"
	"bulwark/tables"
)

const minus = 1<<32 - 1

const onePlan = "stack 256\ntrusted 4\ncompartment a\nobject a a.o\nexport a main 0 64\nimport a a main\ndevice a led 65280 8\nstart a main\n"

const twoPlan = "stack 256\ntrusted 4\ncompartment a\ncompartment b\nobject a a.o\nobject b b.o\nexport a main 0 64\nexport b f 3 32\nimport a b f\nstart a main\n"

const head = ".section .text 6 4\n"

// rest is where a program stays when it has done all: its way back is a way to go round.
const rest = "rest: cjal c0 0 @17 rest\n"

func image(t *testing.T, plan string, texts ...string) api.Image {
	t.Helper()
	var files []api.File
	for k, text := range texts {
		files = append(files, kit.File(string(rune('a'+k))+".o", head+".global main\n.global f\n"+text))
	}
	i, f := link.Link(plan, files)
	if f != (api.Fault{}) {
		t.Fatalf("%+v", f)
	}
	return i
}

func machine(t *testing.T, i api.Image) *run.Machine {
	t.Helper()
	m, e := run.New(i)
	if e != api.OK {
		t.Fatal(e)
	}
	return m
}

// after runs so many steps, and answers the machine.
func after(t *testing.T, i api.Image, steps int) *run.Machine {
	t.Helper()
	m := machine(t, i)
	if _, e := m.Run(nil, steps); e != api.OK {
		t.Fatal(e)
	}
	return m
}

func region(t *testing.T, i api.Image, kind uint8, owner int) api.Region {
	t.Helper()
	r, ok := tables.Region(i.Regions, kind, owner)
	if !ok {
		t.Fatalf("no region %d of %d", kind, owner)
	}
	return r
}

func load(t *testing.T, m *memory.Memory, at uint32) uint32 {
	t.Helper()
	n, e := m.Load(at, 4)
	if e != api.OK {
		t.Fatal(e)
	}
	return n
}

func TestNew(t *testing.T) {
	i := image(t, onePlan, "main: addi c10 c0 7\n"+rest)
	m := machine(t, i)
	if m.State() != i.Start || m.Steps() != 0 {
		t.Errorf("%+v, %d", m.State(), m.Steps())
	}
	b, _ := m.Memory().Bytes(0, 65280)
	if !reflect.DeepEqual(b, i.Bytes) {
		t.Error("other bytes")
	}
	if n, _ := m.Memory().Tags(0, 65536); n != len(i.Tags) {
		t.Errorf("%d tags", n)
	}
	for name, c := range map[string]struct {
		i    api.Image
		want api.Errno
	}{
		"empty": {api.Image{}, api.ErrForm}, "too few bytes": {api.Image{Bytes: make([]byte, 65279)}, api.ErrForm}, "a tag too high": {api.Image{Bytes: make([]byte, 65280), Tags: []int{8160}}, api.ErrForm}, "bytes alone": {api.Image{Bytes: make([]byte, 65280)}, api.OK},
	} {
		if m, e := run.New(c.i); e != c.want || (m == nil) != (e != api.OK) {
			t.Errorf("%s: %v, %d", name, m, e)
		}
	}
}

func TestOfNothing(t *testing.T) {
	var none *run.Machine
	for name, m := range map[string]*run.Machine{"nil": none, "zero": {}} {
		if d, e := m.Step(api.Round{}); e != api.ErrNil || !reflect.DeepEqual(d, api.Done{}) {
			t.Errorf("%s: Step: %+v, %d", name, d, e)
		}
		for _, steps := range []int{0, 5, -1, 100001} {
			if l, e := m.Run(nil, steps); e != api.ErrNil || len(l) != 0 {
				t.Errorf("%s: Run: %v, %d", name, l, e)
			}
		}
		if m.State() != (api.State{}) || m.Memory() != nil || m.Steps() != 0 {
			t.Errorf("%s: %+v", name, m.State())
		}
	}
}

func TestRunErrors(t *testing.T) {
	m := machine(t, image(t, onePlan, "main: "+rest[6:]+rest))
	for _, steps := range []int{-1, 100001, 1 << 62, -1 << 63} {
		if l, e := m.Run(nil, steps); e != api.ErrArg || len(l) != 0 || m.Steps() != 0 {
			t.Errorf("%d: %d", steps, e)
		}
	}
	if l, e := m.Run([]api.Round{{Timer: true}}, 0); e != api.OK || len(l) != 0 || m.Steps() != 0 {
		t.Errorf("%v, %d", l, e)
	}
	if l, e := m.Run(nil, 100000); e != api.OK || len(l) != 100000 || m.Steps() != 100000 {
		t.Errorf("%d, %d", len(l), e)
	}
}

// devices stores what a device answers, and what it answers then.
const devices = "main: \n" + "ma: auipcc c7 0 @23 device.led\nclc c7 0 of c7 @24 ma\nagain: lw c8 0 of c7\nsw c8 4 of c7\ncjal c0 0 @17 again\n"

func TestRounds(t *testing.T) {
	m := machine(t, image(t, onePlan, devices))
	l, e := m.Run([]api.Round{{Answer: 1}, {}, {Answer: 77}, {Answer: 5}, {Answer: 6}, {Answer: 88}}, 20)
	if e != api.OK || len(l) != 20 || m.Steps() != 20 {
		t.Fatalf("%d, %d", len(l), e)
	}
	for k, want := range []uint32{77, 88, 0, 0, 0, 0} {
		d := l[3+3*k]
		if !d.Told || d.Out != want || d.To != 65284 || d.Cause != 0 || len(d.Touched) != 2 || d.Touched[1] != (api.Touch{What: api.TouchStore, At: 65284, N: 4}) {
			t.Errorf("%d: %+v", k, d)
		}
	}
	d, e := m.Step(api.Round{Timer: true, Answer: 9})
	if e != api.OK || !reflect.DeepEqual(d, api.Done{Cause: api.CauseTimer}) || m.Steps() != 21 {
		t.Errorf("%+v, %d", d, e)
	}
}

// What a machine does is what cpu does, step by step.
func TestAsCpu(t *testing.T) {
	i := image(t, onePlan, devices)
	m := machine(t, i)
	memory, e := link.Load(i)
	if e != api.OK {
		t.Fatal(e)
	}
	s := i.Start
	for k := range 300 {
		r := api.Round{Timer: k%41 == 17, Answer: uint32(k * k)}
		next, want, _ := cpu.Step(memory, s, r.Timer, r.Answer)
		s = next
		if d, e := m.Step(r); e != api.OK || !reflect.DeepEqual(d, want) || m.State() != s || m.Steps() != k+1 {
			t.Fatalf("%d: %+v, %d", k, d, e)
		}
	}
	if *m.Memory() != *memory {
		t.Error("another memory")
	}
}

func TestHalted(t *testing.T) {
	i := image(t, onePlan, "main: addi c10 c0 7\necall\n")
	i.Start.Mtcc.Tag = false
	m := machine(t, i)
	l, e := m.Run([]api.Round{{}, {}, {Timer: true}}, 50)
	if e != api.OK || len(l) != 2 || l[1].Cause != api.CauseCall || m.Steps() != 2 || !m.State().Halted {
		t.Fatalf("%+v, %d, %d", l, e, m.Steps())
	}
	before := m.State()
	if d, e := m.Step(api.Round{Timer: true, Answer: 3}); e != api.OK || !reflect.DeepEqual(d, api.Done{}) || m.Steps() != 2 || m.State() != before {
		t.Errorf("%+v, %d", d, e)
	}
	if l, e := m.Run(nil, 10); e != api.OK || len(l) != 0 || m.Steps() != 2 {
		t.Errorf("%v, %d", l, e)
	}
	if _, e := m.Run(nil, -1); e != api.ErrArg {
		t.Errorf("%d", e)
	}
	i.Start.Halted = true
	if l, e := machine(t, i).Run(nil, 10); e != api.OK || len(l) != 0 {
		t.Errorf("%v, %d", l, e)
	}
}

// Of Run the parts, one behind the other, are the whole.
func TestParts(t *testing.T) {
	i := image(t, onePlan, devices)
	var rounds []api.Round
	for k := range 120 {
		rounds = append(rounds, api.Round{Timer: k%29 == 5, Answer: uint32(3 * k)})
	}
	whole := machine(t, i)
	want, _ := whole.Run(rounds, 200)
	for _, cut := range []int{0, 1, 5, 6, 60, 119, 120, 121, 200} {
		m := machine(t, i)
		a, _ := m.Run(rounds[:min(cut, 120)], cut)
		b, _ := m.Run(rounds[min(cut, 120):], 200-cut)
		if !reflect.DeepEqual(append(a, b...), want) || m.State() != whole.State() || *m.Memory() != *whole.Memory() || m.Steps() != whole.Steps() {
			t.Errorf("cut at %d", cut)
		}
	}
}

// Nothing that is handed in or answered is the machine's own.
func TestNothingIsShared(t *testing.T) {
	i, j := image(t, onePlan, devices), image(t, onePlan, devices)
	m, other := machine(t, i), machine(t, j)
	for k := range i.Bytes {
		i.Bytes[k] = 0xff
	}
	copied := m.Memory()
	for at := uint32(0); at < 65536; at += 4 {
		copied.Store(at, 4, minus)
	}
	rounds := []api.Round{{Answer: 1}, {Answer: 2}, {Answer: 3}}
	a, _ := m.Run(rounds, 10)
	b, _ := other.Run([]api.Round{{Answer: 1}, {Answer: 2}, {Answer: 3}}, 10)
	if !reflect.DeepEqual(a, b) || *m.Memory() != *other.Memory() || !reflect.DeepEqual(rounds, []api.Round{{Answer: 1}, {Answer: 2}, {Answer: 3}}) {
		t.Error("shared")
	}
	a[0].Touched[0].At = 1
	if a[1].Touched[0].At == 1 {
		t.Error("two answers share")
	}
}

// The machine starts in the start's compartment, with the whole stack; all but c1, c2, c3 are Null.
func TestStart(t *testing.T) {
	i := image(t, onePlan, "main: addi c10 c0 7\n"+rest)
	s := machine(t, i).State()
	code, stack := region(t, i, api.RegCode, 0), region(t, i, api.RegStack, -1)
	if capa.Base(s.Pcc) != uint64(code.At) || s.Pcc.Addr != code.At+24 || capa.Base(s.Regs[2]) != uint64(stack.At) || s.Regs[2].Addr != stack.At+256 || capa.Top(s.Regs[2]) != uint64(stack.At+256) {
		t.Errorf("%+v", s)
	}
	for k, c := range s.Regs {
		if (k < 1 || k > 3) && c != capa.Null() {
			t.Errorf("c%d: %v", k, c)
		}
	}
	if s := after(t, i, 1).State(); s.Regs[10] != capa.Int(7) {
		t.Errorf("%v", s.Regs[10])
	}
}

// One that jumps to its slot 0 with c6 Null has -2 in c10 behind it.
func TestSlotWithoutExport(t *testing.T) {
	i := image(t, onePlan, "main: addi c10 c0 7\n"+kit.Slot("s", "c5", "switch")+"cjalr c1 0 of c5\n"+rest)
	s := after(t, i, 200).State()
	if s.Regs[10] != capa.Int(minus-1) || s.Pcc.Addr != region(t, i, api.RegCode, 0).At+24+16 || !s.On {
		t.Errorf("%v at %v", s.Regs[10], s.Pcc)
	}
}

// One that stores to its code traps, and stands at stop, if nobody called it.
func TestStoreToCode(t *testing.T) {
	i := image(t, onePlan, "main: auipcc c5 0\nsw c0 0 of c5\n"+rest)
	m := machine(t, i)
	before := *m.Memory()
	l, _ := m.Run(nil, 200)
	stop, _ := gate.Place("stop")
	if l[1].Cause != api.CauseStore || m.State().Pcc.Addr != region(t, i, api.RegSwitch, -1).At+stop || *m.Memory() != before {
		t.Errorf("%+v, %v", l[1], m.State().Pcc)
	}
}

// One that is called, and traps: its caller has -1 in c10.
func TestCalleeTraps(t *testing.T) {
	i := image(t, twoPlan, "main: addi c10 c0 7\n"+kit.Call("m", "import.b.f")+rest, "f: addi c10 c10 1\nlw c4 0 of c0\n"+rest)
	s := after(t, i, 600).State()
	if s.Regs[10] != capa.Int(minus) || s.Regs[11] != capa.Null() || s.Pcc.Addr != region(t, i, api.RegCode, 0).At+16+24 {
		t.Errorf("%v at %v", s.Regs[10], s.Pcc)
	}
}

func TestCallAnswers(t *testing.T) {
	i := image(t, twoPlan, "main: addi c10 c0 7\naddi c11 c0 5\naddi c13 c0 9\n"+kit.Call("m", "import.b.f")+rest, "f: add c10 c10 c11\nadd c11 c13 c12\ncjalr c0 0 of c1\n")
	s := after(t, i, 600).State()
	if s.Regs[10] != capa.Int(12) || s.Regs[11] != capa.Int(0) || s.Pcc.Addr != region(t, i, api.RegCode, 0).At+16+32 {
		t.Errorf("%v, %v at %v", s.Regs[10], s.Regs[11], s.Pcc)
	}
}

// One that keeps c1 in its globals, and jumps there when it is called anew: its newest caller goes on.
func TestOldWayBack(t *testing.T) {
	i := image(t, twoPlan, "main: addi c10 c0 7\n"+kit.Call("m", "import.b.f")+"addi c10 c0 8\n"+kit.Call("n", "import.b.f")+rest,
		"f: lw c4 8 of c3\nbne c4 c0 0 @16 anew\ncsc c1 0 of c3\naddi c4 c0 1\nsw c4 8 of c3\ncjalr c0 0 of c1\nanew: clc c5 0 of c3\naddi c10 c0 99\ncjalr c0 0 of c5\n.zero .bss 3 8 16\n")
	s := after(t, i, 1000).State()
	if s.Regs[10] != capa.Int(99) || s.Pcc.Addr != region(t, i, api.RegCode, 0).At+16+48 || s.Mtdc.Addr != region(t, i, api.RegTrusted, -1).At {
		t.Errorf("%v at %v", s.Regs[10], s.Pcc)
	}
}

// One that hands a capability of its globals on: the callee loads and stores there, but no capabilities.
func TestGlobalsHandedOn(t *testing.T) {
	caller := "main: c.move c10 c3\n" + kit.Call("m", "import.b.f") + rest + ".section .data 3 8\n.word 41\n.word 0\n.word 0\n.word 0\n"
	i := image(t, twoPlan, caller, "f: lw c4 0 of c10\naddi c4 c4 1\nsw c4 4 of c10\nc.move c11 c10\naddi c10 c4 0\ncjalr c0 0 of c1\n")
	m := after(t, i, 600)
	data := region(t, i, api.RegData, 0)
	s := m.State()
	if s.Regs[10] != capa.Int(42) || load(t, m.Memory(), data.At+4) != 42 {
		t.Errorf("%v", s.Regs[10])
	}
	if want, _ := tables.Cap(data, 19, data.At); s.Regs[11] != want {
		t.Errorf("%v comes back, not %v", s.Regs[11], want)
	}
	for _, text := range []string{"f: csc c0 8 of c10\ncjalr c0 0 of c1\n", "f: clc c4 8 of c10\ncjalr c0 0 of c1\n"} {
		if s := after(t, image(t, twoPlan, caller, text), 600).State(); s.Regs[10] != capa.Int(minus) {
			t.Errorf("%s: %v", text, s.Regs[10])
		}
	}
}

// One that hands on a sealed export: the callee has it without its tag.
func TestExportHandedOn(t *testing.T) {
	i := image(t, twoPlan, "main: addi c10 c0 7\n"+kit.Slot("s", "c11", "import.b.f")+"c.gettag c12 c11\n"+kit.Call("m", "import.b.f")+rest, "f: c.gettag c4 c11\naddi c10 c4 100\nadd c10 c10 c12\nc.getaddr c11 c11\ncjalr c0 0 of c1\n")
	s := after(t, i, 600).State()
	if s.Regs[10] != capa.Int(101) || s.Regs[11] != capa.Int(region(t, i, api.RegExports, 1).At) {
		t.Errorf("%v, %v", s.Regs[10], s.Regs[11])
	}
}
