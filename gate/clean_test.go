package gate_test

import (
	"testing"

	"bulwark/api"
	"bulwark/capa"
	"bulwark/cpu"
	"bulwark/gate"
	"bulwark/memory"
)

const minus = 1<<32 - 1

// Where all stands in these tests.
const (
	gateAt    = 64
	trustedAt = 4096
	frames    = 2
	stackAt   = 8192
	stackTop  = 8192 + 512
	entryAt   = 12288
	calleeAt  = 16384
	dataAt    = 20480
	callerAt  = 24576
)

func root(t *testing.T, base, top uint64, perms uint8) api.Cap {
	t.Helper()
	c, e := capa.Root(base, top, perms)
	if e != api.OK {
		t.Fatalf("Root(%d, %d): %d", base, top, e)
	}
	return c
}

// world is a machine that stands at enter, ready to call an export with so many arguments that needs so much stack.
type world struct {
	m             *memory.Memory
	s             api.State
	code, sentry  api.Cap // the callee's
	globals, back api.Cap
}

func newWorld(t *testing.T, args, stack uint32) *world {
	t.Helper()
	w := &world{m: memory.New()}
	for k, word := range gate.Words() {
		w.m.Store(uint32(gateAt+4*k), 4, word)
	}
	switcher := root(t, gateAt, 2048, 88)
	at := func(label string) api.Cap {
		p, e := gate.Place(label)
		if e != api.OK {
			t.Fatal(e)
		}
		return capa.SetAddr(switcher, gateAt+p)
	}
	w.code = root(t, calleeAt, calleeAt+256, 29)
	w.sentry = capa.Seal(capa.SetAddr(w.code, calleeAt+16), api.SentryOn)
	w.globals = root(t, dataAt, dataAt+64, 23)
	w.back = capa.Seal(at("back"), api.SentryOff)
	w.m.StoreCap(entryAt, w.sentry)
	w.m.StoreCap(entryAt+8, w.globals)
	w.m.Store(entryAt+16, 4, args+256*stack)
	w.s = cpu.Start(at("enter"))
	w.s.Mtcc = at("trap")
	w.s.Mtdc = root(t, trustedAt, trustedAt+32*frames, 39)
	for k := range w.s.Regs {
		w.s.Regs[k] = root(t, 30000, 30008, 127)
	}
	w.s.Regs[1] = capa.Seal(capa.SetAddr(root(t, callerAt, callerAt+256, 29), callerAt+8), api.SentryOn)
	w.s.Regs[2] = capa.SetAddr(root(t, stackAt, stackTop, 39), stackAt+256)
	w.s.Regs[3] = root(t, 28000, 28008, 23)
	w.s.Regs[6] = capa.Seal(root(t, entryAt, entryAt+24, 21), api.SealExport)
	for at := uint32(stackAt); at < stackTop; at += 8 {
		w.m.StoreCap(at, root(t, 30000, 30008, 127))
	}
	return w
}

// run goes on until the switcher is left, or goes round at stop.
func (w *world) run(t *testing.T) (stopped bool) {
	t.Helper()
	for range 5000 {
		was := w.s.Pcc
		n, _, e := cpu.Step(w.m, w.s, false, 0)
		if e != api.OK || n.Halted {
			t.Fatalf("%d, %+v", e, n)
		}
		w.s = n
		if n.Pcc.Perms&api.PermSystem == 0 {
			return false
		}
		if n.Pcc == was {
			return true
		}
	}
	t.Fatal("it goes round")
	return false
}

// nulls checks that all registers but some are Null.
func (w *world) nulls(t *testing.T, but ...int) {
	t.Helper()
	for k, c := range w.s.Regs {
		is := false
		for _, b := range but {
			is = is || b == k
		}
		if !is && c != capa.Null() {
			t.Errorf("c%d has %v", k, c)
		}
	}
}

// window checks that the stack is 0 without a tag from one place to another.
func (w *world) window(t *testing.T, from, to int, clean bool) {
	t.Helper()
	tags, _ := w.m.Tags(from, to-from)
	b, _ := w.m.Bytes(from, to-from)
	zero := true
	for _, x := range b {
		zero = zero && x == 0
	}
	if clean && (tags != 0 || !zero) || !clean && tags != (to-from)/8 {
		t.Errorf("the stack from %d to %d: %d tags, %v", from, to, tags, zero)
	}
}

func TestEntryIsClean(t *testing.T) {
	for args := range 7 {
		w := newWorld(t, uint32(args), 256)
		before := w.s
		w.s.Regs[11] = capa.Seal(w.s.Regs[11], 4)
		w.s.Regs[12] = capa.Int(7)
		w.s.Regs[13] = capa.Sentry(w.s.Regs[13])
		given := w.s.Regs
		w.run(t)
		but := []int{1, 2, 3}
		for k := range args {
			but = append(but, 10+k)
			want := given[10+k]
			if want.Type != 0 {
				want = capa.ClearTag(want)
			}
			want.Perms &= 19
			if w.s.Regs[10+k] != want {
				t.Errorf("%d arguments: c%d has %v, not %v", args, 10+k, w.s.Regs[10+k], want)
			}
		}
		w.nulls(t, but...)
		stack := capa.SetAddr(root(t, stackAt, stackAt+256, 39), stackAt+256)
		if w.s.Regs[1] != w.back || w.s.Regs[2] != stack || w.s.Regs[3] != w.globals {
			t.Errorf("c1, c2, c3: %v", w.s.Regs[1:4])
		}
		if w.s.Pcc != capa.SetAddr(w.code, calleeAt+16) || !w.s.On {
			t.Errorf("entered at %v", w.s.Pcc)
		}
		w.window(t, stackAt, stackAt+256, true)
		w.window(t, stackAt+256, stackTop, false)
		for k, want := range []api.Cap{before.Regs[2], before.Regs[3], before.Regs[1]} {
			if c, _ := w.m.LoadCap(uint32(trustedAt + 8*k)); c != want {
				t.Errorf("the frame: %v at %d", c, k)
			}
		}
		if w.s.Mtdc.Addr != trustedAt+32 {
			t.Errorf("Mtdc: %v", w.s.Mtdc)
		}
	}
}

// dirty fills registers and the callee's window, and goes to the way back.
func (w *world) dirty(t *testing.T) {
	for k := range w.s.Regs {
		w.s.Regs[k] = root(t, 30000, 30008, 127)
	}
	for at := uint32(stackAt); at < stackAt+256; at += 8 {
		w.m.StoreCap(at, root(t, 30000, 30008, 127))
	}
	w.s.Pcc, w.s.On = capa.Unseal(w.back), false
}

func TestReturnIsClean(t *testing.T) {
	r := root(t, 30000, 30008, 127)
	for i, c := range []struct{ a, b, wantA, wantB api.Cap }{
		{capa.Int(5), capa.Int(6), capa.Int(5), capa.Int(6)},
		{r, capa.Seal(r, 4), capa.AndPerms(r, 19), capa.AndPerms(capa.Seal(r, 4), 19)},
		{capa.AndPerms(r, 47), r, capa.ClearTag(capa.AndPerms(r, 3)), capa.AndPerms(r, 19)},
		{capa.Sentry(r), capa.AndPerms(r, 39), capa.AndPerms(capa.Sentry(r), 19), capa.ClearTag(capa.AndPerms(r, 3))},
	} {
		w := newWorld(t, 2, 64)
		caller := w.s.Regs
		w.run(t)
		w.dirty(t)
		w.s.Regs[10], w.s.Regs[11] = c.a, c.b
		if w.run(t) {
			t.Fatal("stopped")
		}
		w.nulls(t, 1, 2, 3, 10, 11)
		w.window(t, stackAt, stackAt+256, true)
		w.window(t, stackAt+256, stackTop, false)
		if w.s.Regs[1] != caller[1] || w.s.Regs[2] != caller[2] || w.s.Regs[3] != caller[3] {
			t.Errorf("%d: %v are not the caller's", i, w.s.Regs[1:4])
		}
		if w.s.Regs[10] != c.wantA || w.s.Regs[11] != c.wantB {
			t.Errorf("%d: answers %v, %v", i, w.s.Regs[10], w.s.Regs[11])
		}
		if w.s.Pcc != capa.Unseal(caller[1]) || !w.s.On || w.s.Mtdc.Addr != trustedAt {
			t.Errorf("%d: goes on at %v", i, w.s.Pcc)
		}
	}
}

func TestRefused(t *testing.T) {
	for name, change := range map[string]func(w *world){
		"no export":          func(w *world) { w.s.Regs[6] = capa.Null() },
		"no tag":             func(w *world) { w.s.Regs[6] = capa.ClearTag(w.s.Regs[6]) },
		"an open one":        func(w *world) { w.s.Regs[6] = capa.Unseal(w.s.Regs[6]) },
		"another seal":       func(w *world) { w.s.Regs[6].Type = 5 },
		"a sentry":           func(w *world) { w.s.Regs[6].Type = 1 },
		"no stack":           func(w *world) { w.s.Regs[2] = capa.Null() },
		"no stack's tag":     func(w *world) { w.s.Regs[2] = capa.ClearTag(w.s.Regs[2]) },
		"a sealed stack":     func(w *world) { w.s.Regs[2] = capa.Seal(w.s.Regs[2], 4) },
		"global stack":       func(w *world) { w.s.Regs[2].Perms |= api.PermGlobal },
		"a lesser stack":     func(w *world) { w.s.Regs[2] = capa.AndPerms(w.s.Regs[2], 7) },
		"below its base":     func(w *world) { w.s.Regs[2].Addr = stackAt - 8; w.s.Regs[2].Tag = true },
		"no eight":           func(w *world) { w.s.Regs[2] = capa.SetAddr(w.s.Regs[2], stackAt+252) },
		"base of no eight":   func(w *world) { w.s.Regs[2] = root(t, stackAt+4, stackAt+504, 39); w.s.Regs[2].Addr = stackAt + 500 },
		"above its top":      func(w *world) { w.s.Regs[2] = capa.SetAddr(w.s.Regs[2], stackTop+8) },
		"too short":          func(w *world) { w.m.Store(entryAt+16, 4, 256*264) },
		"no frame":           func(w *world) { w.s.Mtdc = capa.SetAddr(w.s.Mtdc, trustedAt+32*frames) },
		"half a frame":       func(w *world) { w.s.Mtdc = capa.SetAddr(w.s.Mtdc, trustedAt+32*frames-24) },
		"a stack of no byte": func(w *world) { w.s.Regs[2] = capa.SetAddr(w.s.Regs[2], stackAt) },
	} {
		w := newWorld(t, 3, 256)
		change(w)
		before, memoryBefore := w.s, w.m.Copy()
		if w.run(t) {
			t.Fatalf("%s: stopped", name)
		}
		w.nulls(t, 1, 2, 3, 10)
		if w.s.Regs[10] != capa.Int(minus-1) || w.s.Regs[1] != before.Regs[1] || w.s.Regs[2] != before.Regs[2] || w.s.Regs[3] != before.Regs[3] {
			t.Errorf("%s: %v", name, w.s.Regs)
		}
		if w.s.Pcc != capa.Unseal(before.Regs[1]) || w.s.Mtdc != before.Mtdc {
			t.Errorf("%s: goes on at %v", name, w.s.Pcc)
		}
		if *w.m != *memoryBefore {
			t.Errorf("%s: memory was changed", name)
		}
	}
}

func TestJustEnough(t *testing.T) {
	w := newWorld(t, 0, 256)
	w.s.Mtdc = capa.SetAddr(w.s.Mtdc, trustedAt+32*(frames-1))
	w.run(t)
	if w.s.Pcc.Addr != calleeAt+16 || w.s.Mtdc.Addr != trustedAt+32*frames {
		t.Errorf("%v", w.s.Pcc)
	}
}

// A way back that is no sentry is a fault: the newest frame's caller goes on with -1, or it stops.
func TestFault(t *testing.T) {
	for name, c := range map[string]api.Cap{"none": capa.Null(), "open": root(t, callerAt, callerAt+256, 29), "an export": capa.Seal(root(t, entryAt, entryAt+24, 21), 4), "no tag": capa.ClearTag(capa.Sentry(root(t, callerAt, callerAt+256, 29)))} {
		w := newWorld(t, 0, 64)
		w.s.Regs[1] = c
		if !w.run(t) {
			t.Errorf("%s: goes on at %v", name, w.s.Pcc)
		}
		if stop, _ := gate.Place("stop"); w.s.Pcc.Addr != gateAt+stop {
			t.Errorf("%s: stands at %v", name, w.s.Pcc)
		}
		w = newWorld(t, 0, 64)
		caller, enter := w.s.Regs, w.s.Pcc
		w.run(t)
		w.dirty(t)
		w.s.Pcc = enter
		w.s.Regs[1] = c
		if w.run(t) || w.s.Regs[10] != capa.Int(minus) || w.s.Pcc != capa.Unseal(caller[1]) {
			t.Errorf("%s, called: %v, c10 %v", name, w.s.Pcc, w.s.Regs[10])
		}
		w.nulls(t, 1, 2, 3, 10)
		w.window(t, stackAt, stackAt+256, true)
	}
}

func TestTrap(t *testing.T) {
	for _, cause := range []uint32{1, 2, 3, 4, 5, 6, 7} {
		w := newWorld(t, 0, 64)
		caller := w.s.Regs
		w.run(t)
		w.dirty(t)
		w.s.Pcc, w.s.Cause = w.s.Mtcc, cause
		if w.run(t) || w.s.Regs[10] != capa.Int(minus) || w.s.Pcc != capa.Unseal(caller[1]) {
			t.Errorf("cause %d: %v", cause, w.s.Pcc)
		}
		w.nulls(t, 1, 2, 3, 10)
		w.window(t, stackAt, stackAt+256, true)
	}
}

func TestTimer(t *testing.T) {
	w := newWorld(t, 0, 64)
	w.run(t)
	for k := 1; k < 16; k++ {
		w.s.Regs[k] = capa.SetAddr(root(t, 30000, 30256, 127), uint32(30000+k))
	}
	before := w.s
	n, d, _ := cpu.Step(w.m, w.s, true, 0)
	if d.Cause != api.CauseTimer {
		t.Fatalf("%+v", d)
	}
	w.s = n
	if w.run(t) || w.s.Regs != before.Regs || w.s.Pcc != before.Pcc || !w.s.On {
		t.Errorf("%+v", w.s)
	}
}
