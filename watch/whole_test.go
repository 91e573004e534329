package watch_test

import (
	"fmt"
	"math/rand"
	"slices"
	"sync"
	"testing"

	"bulwark/api"
	"bulwark/capa"
	"bulwark/gate"
	"bulwark/graph"
	"bulwark/kit"
	"bulwark/link"
	"bulwark/memory"
	"bulwark/run"
	"bulwark/tables"
	"bulwark/watch"
)

const minus = 1<<32 - 1

// span is bytes that somebody may load, and store.
type span struct {
	at, end     uint64
	load, store bool
}

// activation is a call that has not come back: who was called, the window of the stack, and what the caller goes on with.
type activation struct {
	who        int
	from, to   uint64
	c1, c2, c3 api.Cap
}

// whose is an owner's, and what it did.
type whose struct{ owner, what int }

// audit holds a run against what the document promises of the whole.
type audit struct {
	i       api.Image
	g       api.Graph
	at      map[string]uint32 // of the switcher's labels
	back    api.Cap
	m, late *run.Machine // late stands where m stood ahead of its step
	calls   []activation
	own     [][]span
	owners  map[span]int
	handed  []map[span]int
	last    int       // the compartment that ran last
	left    api.State // how the switcher was come to
	leftIn  *memory.Memory
	touched map[whose]*[65536]bool
	changes []api.Change
	said    map[string]int
	fault   string
}

func (a *audit) wrong(is bool, format string, args ...any) {
	if is && a.fault == "" {
		a.fault = fmt.Sprintf("step %d: ", a.late.Steps()) + fmt.Sprintf(format, args...)
	}
}

func (a *audit) region(kind uint8, owner int) api.Region {
	r, ok := tables.Region(a.i.Regions, kind, owner)
	a.wrong(!ok, "no region %d of %d", kind, owner)
	return r
}

// labels are the switcher's places, from 0 on.
var labels = sync.OnceValue(func() map[string]uint32 {
	all := map[string]uint32{}
	for k, l := range gate.Lines() {
		if l.Label != "" {
			all[l.Label] = 4 * uint32(k)
		}
	}
	return all
})

func newAudit(t *testing.T, i api.Image) *audit {
	t.Helper()
	a := &audit{i: i, at: map[string]uint32{}, touched: map[whose]*[65536]bool{}, said: map[string]int{}, owners: map[span]int{}, last: i.Plan.Start}
	var e1, e2, e3 api.Errno
	a.m, e1 = run.New(i)
	a.late, e2 = run.New(i)
	a.g, e3 = graph.Of(i)
	if e1 != api.OK || e2 != api.OK || e3 != api.OK {
		t.Fatal(e1, e2, e3)
	}
	switcher := a.region(api.RegSwitch, -1)
	for label, at := range labels() {
		a.at[label] = switcher.At + at
	}
	back, _ := tables.Cap(switcher, 88, a.at["back"])
	a.back = capa.Seal(back, api.SentryOff)
	for c := range i.Plan.Compartments {
		l, e := graph.Reach(i, c)
		if e != api.OK {
			t.Fatal(e)
		}
		var own []span
		for _, s := range l {
			own = append(own, span{uint64(s.At), uint64(s.At) + uint64(s.N), true, s.Write})
		}
		a.own, a.handed = append(a.own, own), append(a.handed, map[span]int{})
	}
	stack := a.region(api.RegStack, -1)
	a.calls = []activation{{who: i.Plan.Start, from: uint64(stack.At), to: uint64(stack.At + stack.N)}}
	return a
}

// owner is who runs.
func (a *audit) owner(s api.State) int {
	if !s.Pcc.Tag {
		return -2
	}
	if s.Pcc.Perms >= 64 {
		return -1
	}
	bytes := span{at: capa.Base(s.Pcc), end: capa.Top(s.Pcc)}
	if _, known := a.owners[bytes]; !known {
		a.owners[bytes] = a.whose(bytes)
	}
	return a.owners[bytes]
}

// whose looks at all bytes, one by one.
func (a *audit) whose(bytes span) int {
	of := map[int]int{}
	for at := bytes.at; at < bytes.end; at++ {
		whose := -2
		for _, r := range a.i.Regions {
			if r.Kind == api.RegCode && at >= uint64(r.At) && at < uint64(r.At+r.N) {
				whose = r.Owner
			}
		}
		of[whose]++
	}
	if len(of) == 1 {
		for whose := range of {
			return whose
		}
	}
	return -2
}

// may tells whether a compartment may touch bytes now.
func (a *audit) may(c int, t api.Touch) bool {
	from, to := uint64(t.At), uint64(t.At)+uint64(t.N)
	within := func(s span) bool {
		return from >= s.at && to <= s.end && (t.What != api.TouchStore || s.store) && (t.What == api.TouchStore || s.load)
	}
	top := a.calls[len(a.calls)-1]
	if within(span{top.from, top.to, true, true}) || slices.ContainsFunc(a.own[c], within) {
		return true
	}
	for s := range a.handed[c] {
		if within(s) {
			a.said["what was handed is touched"]++
			return true
		}
	}
	return false
}

func (a *audit) touch(from int, done api.Done) {
	for _, t := range done.Touched {
		w := whose{from, t.What}
		if a.touched[w] == nil {
			a.touched[w] = new([65536]bool)
		}
		for k := range t.N {
			a.touched[w][int(t.At)+k] = true
		}
		if from < 0 {
			continue
		}
		a.wrong(a.calls[len(a.calls)-1].who != from, "%d runs, and was not entered", from)
		if t.What == api.TouchFetch {
			code := a.region(api.RegCode, from)
			a.wrong(t.At < code.At || t.At+4 > code.At+code.N, "%d fetches at %d", from, t.At)
			continue
		}
		a.wrong(!a.may(from, t), "%d touches %+v", from, t)
	}
}

// hand notes that a compartment has a capability now.
func (a *audit) hand(c int, x api.Cap) {
	if x.Tag {
		a.wrong(x.Type != 0 || x.Perms&^19 != 0, "%d has %+v", c, x)
		a.handed[c][span{capa.Base(x), capa.Top(x), x.Perms&1 != 0, x.Perms&2 != 0}]++
		a.said["handed"]++
	}
}

// nulls checks that all registers are Null but some.
func (a *audit) nulls(s api.State, but ...int) {
	for k, c := range s.Regs {
		a.wrong(!slices.Contains(but, k) && c != capa.Null(), "c%d has %+v", k, c)
	}
}

func (a *audit) clean(m *memory.Memory, from, to uint64) {
	b, _ := m.Bytes(int(from), int(to-from))
	tags, _ := m.Tags(int(from), int(to-from))
	a.wrong(tags != 0 || slices.ContainsFunc(b, func(x byte) bool { return x != 0 }), "the window from %d to %d is not clean: %d tags, %v", from, to, tags, b)
}

// enterable tells which export the switcher has to enter for a state in which it was come to at enter.
func (a *audit) enterable(s api.State) (c, export int, ok bool) {
	x, stack := s.Regs[6], s.Regs[2]
	if !s.Regs[1].Tag || s.Regs[1].Type < 1 || s.Regs[1].Type > 3 || !x.Tag || x.Type != api.SealExport {
		return 0, 0, false
	}
	if !stack.Tag || stack.Type != 0 || stack.Perms != 39 || stack.Addr%8 != 0 || capa.Base(stack)%8 != 0 || uint64(stack.Addr) < capa.Base(stack) || uint64(stack.Addr) > capa.Top(stack) {
		return 0, 0, false
	}
	for c, p := range a.i.Plan.Compartments {
		for k, e := range p.Exports {
			if capa.Base(x) == uint64(a.region(api.RegExports, c).At)+24*uint64(k) {
				return c, k, uint64(e.Stack) <= uint64(stack.Addr)-capa.Base(stack) && len(a.calls) <= a.i.Plan.Trusted
			}
		}
	}
	a.wrong(true, "%+v is no export", x)
	return 0, 0, false
}

func cleaned(x api.Cap) api.Cap {
	if x.Type != 0 {
		x.Tag = false
	}
	x.Perms &= 19
	return x
}

// entry checks that the switcher enters what it was asked for.
func (a *audit) entry(to int, s api.State, m *memory.Memory) {
	a.said["entry"]++
	c, k, ok := a.enterable(a.left)
	a.wrong(!ok || c != to, "%d is entered, %v", to, ok)
	if a.fault != "" {
		return
	}
	e := a.i.Plan.Compartments[c].Exports[k]
	a.wrong(!slices.Contains(a.g.Edges, api.Edge{Kind: api.EdgeCall, From: a.last, To: c, Name: e.Name}), "%d may not call %d's %s", a.last, c, e.Name)
	a.wrong(a.calls[len(a.calls)-1].who != a.last, "%d calls", a.last)
	first, _ := link.Load(a.i)
	sentry, _ := first.LoadCap(a.region(api.RegExports, c).At + 24*uint32(k))
	data := a.region(api.RegData, c)
	globals, _ := tables.Cap(data, 23, data.At)
	a.wrong(s.Pcc != capa.Unseal(sentry) || !s.On, "entered at %+v", s.Pcc)
	a.wrong(s.Regs[1] != a.back || s.Regs[3] != globals, "c1, c3 are %+v", s.Regs)
	was, stack := a.left.Regs[2], s.Regs[2]
	a.wrong(!stack.Tag || stack.Type != 0 || stack.Perms != 39 || capa.Base(stack) != capa.Base(was) || capa.Top(stack) != uint64(was.Addr) || stack.Addr != was.Addr, "c2 is %+v of %+v", stack, was)
	but := []int{1, 2, 3}
	for n := range e.Args {
		but = append(but, 10+n)
		a.wrong(s.Regs[10+n] != cleaned(a.left.Regs[10+n]), "c%d is %+v of %+v", 10+n, s.Regs[10+n], a.left.Regs[10+n])
		a.hand(to, s.Regs[10+n])
	}
	a.nulls(s, but...)
	a.clean(m, capa.Base(stack), capa.Top(stack))
	a.calls = append(a.calls, activation{to, capa.Base(stack), capa.Top(stack), a.left.Regs[1], was, a.left.Regs[3]})
	a.wrong(s.Mtdc.Addr != a.region(api.RegTrusted, -1).At+32*uint32(len(a.calls)-1), "Mtdc at %d", s.Mtdc.Addr)
}

// refusal checks that one goes on whose call was refused.
func (a *audit) refusal(to int, s api.State, m *memory.Memory) {
	a.said["refusal"]++
	_, _, ok := a.enterable(a.left)
	a.wrong(ok || to != a.last, "%d is refused, %v", to, ok)
	a.nulls(s, 1, 2, 3, 10)
	a.wrong(s.Regs[10] != capa.Int(minus-1), "c10 is %+v", s.Regs[10])
	a.wrong(s.Regs[1] != a.left.Regs[1] || s.Regs[2] != a.left.Regs[2] || s.Regs[3] != a.left.Regs[3], "c1, c2, c3 are %+v", s.Regs)
	a.wrong(s.Pcc != capa.Unseal(a.left.Regs[1]) || s.On != (a.left.Regs[1].Type == api.SentryOn), "goes on at %+v", s.Pcc)
	a.wrong(*m != *a.leftIn, "memory has changed")
}

// back checks that one goes on of whom calls have come back: one, or more where the switcher's own way back was handed in.
func (a *audit) backTo(to int, s api.State, m *memory.Memory, count int) {
	a.said["return"]++
	if count > 1 {
		a.said["return of more"]++
	}
	n := len(a.calls) - count
	a.wrong(n < 1 || count < 1, "%d calls come back of %d", count, len(a.calls))
	if a.fault != "" {
		return
	}
	for k, x := range a.calls[n:] {
		a.clean(m, x.from, x.to)
		a.wrong(k > 0 && x.c1 != a.back, "a call is left out")
	}
	came := a.calls[n]
	a.wrong(a.calls[n-1].who != to, "%d goes on", to)
	a.wrong(s.Regs[1] != came.c1 || s.Regs[2] != came.c2 || s.Regs[3] != came.c3 || s.Pcc != capa.Unseal(came.c1), "goes on at %+v with %+v, not %+v", s.Pcc, s.Regs, came)
	a.wrong(s.On != (came.c1.Type == api.SentryOn), "interrupts are %v behind %+v", s.On, came.c1)
	a.nulls(s, 1, 2, 3, 10, 11)
	for k, x := range s.Regs[10:12] {
		want := cleaned(a.left.Regs[10+k])
		if a.left.Regs[10+k].Perms&api.PermGlobal == 0 {
			want.Tag = false
		}
		trapped := k == 0 && (x == capa.Int(minus) || x == capa.Int(minus-1)) || k == 1 && x == capa.Null()
		a.wrong(x != want && !trapped, "c%d is %+v, not %+v", 10+k, x, want)
		a.hand(to, x)
	}
	if a.left.Cause != 0 && a.left.Pcc.Addr == a.at["trap"] && s.Regs[10] == capa.Int(minus) {
		a.said["thrown out"]++
	}
	a.calls = a.calls[:n]
}

// resumed checks that all is as it was when the timer came.
func (a *audit) resumed(s api.State, m *memory.Memory) {
	a.said["resume"]++
	a.wrong(a.left.Cause != api.CauseTimer || a.left.Pcc.Addr != a.at["trap"], "no timer came: %x", a.left.Cause)
	a.wrong(s.Pcc != a.left.Mepcc || s.Regs != a.left.Regs || s.Mtdc != a.left.Mtdc || !s.On, "goes on at %+v", s.Pcc)
	a.wrong(*m != *a.leftIn, "memory has changed")
}

// change checks a step behind which another one runs.
func (a *audit) change(from, to int, ahead, behind api.State) {
	a.wrong(from >= 0 && to >= 0, "%d comes behind %d", to, from)
	a.wrong(from == -2 && to != -1, "%d comes behind none", to)
	a.wrong(to == -2 && behind.Pcc.Tag && capa.Base(behind.Pcc) < capa.Top(behind.Pcc), "%+v is nobody's", behind.Pcc)
	kind := 0
	m := a.m.Memory()
	switch {
	case to == -1:
		a.left, a.leftIn = behind, m
		a.wrong(behind.On || behind.Mtdc != ahead.Mtdc || behind.Mtcc != a.i.Start.Mtcc, "the switcher's own is %+v", behind)
	case to == -2:
		a.said["none"]++
		if from == -1 {
			a.resumed(behind, m)
		}
	case ahead.Pcc.Addr == a.at["timer"]+4:
		kind = api.ChangeResume
		a.wrong(to != a.last, "%d goes on, not %d", to, a.last)
		a.resumed(behind, m)
	case ahead.Pcc.Addr == a.at["back"]-4:
		kind = api.ChangeEntry
		a.entry(to, behind, m)
	default:
		kind = api.ChangeReturn
		a.wrong(ahead.Pcc.Addr != a.at["refuse"]-4, "left at %d", ahead.Pcc.Addr)
		if behind.Mtdc == a.left.Mtdc {
			a.refusal(to, behind, m)
		} else {
			a.backTo(to, behind, m, int(a.left.Mtdc.Addr-behind.Mtdc.Addr)/32)
		}
	}
	if to >= 0 {
		a.last = to
	}
	a.changes = append(a.changes, api.Change{Step: a.late.Steps(), From: from, To: to, At: behind.Pcc.Addr, Kind: kind})
}

// step does one step, and checks it.
func (a *audit) step(r api.Round) {
	ahead := a.m.State()
	done, e := a.m.Step(r)
	a.wrong(e != api.OK, "%d", e)
	behind := a.m.State()
	from, to := a.owner(ahead), a.owner(behind)
	a.wrong(behind.Halted, "halted")
	if done.Cause != 0 {
		a.said[fmt.Sprintf("cause %x", done.Cause)]++
		a.wrong(*a.m.Memory() != *a.late.Memory(), "a trap changes memory")
		a.wrong(behind.Regs != ahead.Regs, "a trap changes registers")
	}
	a.touch(from, done)
	if from >= 0 {
		a.wrong(behind.Mtdc != ahead.Mtdc || behind.Mtcc != ahead.Mtcc || behind.Mscratch != ahead.Mscratch, "%d writes what is the switcher's", from)
	}
	if from != to {
		a.change(from, to, ahead, behind)
	}
	a.late.Step(r)
}

// spans are what was touched, byte by byte.
func (a *audit) spans() []api.Reached {
	var l []api.Reached
	for owner := -2; owner < 12; owner++ {
		for what := api.TouchFetch; what <= api.TouchStore; what++ {
			bytes := a.touched[whose{owner, what}]
			if bytes == nil {
				continue
			}
			for at := range bytes {
				if !bytes[at] {
					continue
				}
				if at == 0 || !bytes[at-1] {
					l = append(l, api.Reached{Owner: owner, What: what, At: uint32(at)})
				}
				l[len(l)-1].N++
			}
		}
	}
	return l
}

// audited runs an image, step by step, and answers what came about.
func audited(t *testing.T, i api.Image, rounds []api.Round, steps int) map[string]int {
	t.Helper()
	a := newAudit(t, i)
	for k := range steps {
		var r api.Round
		if k < len(rounds) {
			r = rounds[k]
		}
		a.step(r)
		if a.fault != "" {
			t.Fatal(a.fault)
		}
	}
	if a.m.State().Pcc.Addr == a.at["stop"] {
		a.said["stop"]++
	}
	changes, e := watch.Changes(i, rounds, steps)
	if e != api.OK || !slices.Equal(changes, a.changes) {
		t.Fatalf("Changes: %+v, %d, not %+v", changes, e, a.changes)
	}
	touched, e := watch.Touched(i, rounds, steps)
	if e != api.OK || !slices.Equal(touched, a.spans()) {
		t.Fatalf("Touched: %+v, %d, not %+v", touched, e, a.spans())
	}
	return a.said
}

// Whatever the compartments' code, whatever rounds: who runs, what is reached, what is clean is as the document says.
func TestTheWhole(t *testing.T) {
	said := map[string]int{}
	for seed := range int64(400) {
		m := maker{r: rand.New(rand.NewSource(seed))}
		i := m.image(t)
		const steps = 3000
		for what, n := range audited(t, i, m.rounds(steps), steps) {
			said[what] += n
		}
		if t.Failed() {
			t.Fatalf("seed %d", seed)
		}
	}
	t.Log(said)
	for _, what := range []string{"entry", "refusal", "return", "return of more", "resume", "thrown out", "none", "handed", "what was handed is touched", "stop", "cause 1", "cause 2", "cause 3", "cause 4", "cause 5", "cause 6", "cause 7", "cause 80000007"} {
		if said[what] < 10 {
			t.Errorf("%s: %d times", what, said[what])
		}
	}
}

// written is an image of two compartments: a starts, and may call b's f and g; b may call itself.
func written(t *testing.T, stack, trusted, need int, a, b string) api.Image {
	t.Helper()
	plan := fmt.Sprintf("stack %d\ntrusted %d\ncompartment a\ncompartment b\nobject a a.o\nobject b b.o\nexport a main 0 0\nexport b f 2 %d\nexport b g 6 0\nimport a b f\nimport a b g\nimport b b f\nimport b b g\nstart a main\n", stack, trusted, need)
	i, f := link.Link(plan, []api.File{
		kit.File("a.o", ".section .text 6 4\n.global main\nmain: addi c0 c0 0\n"+a+"rest: cjal c0 0 @17 rest\n.section .data 3 8\n.bytes 32\n"),
		kit.File("b.o", ".section .text 6 4\n.global f\n.global g\n"+b+".section .data 3 8\n.bytes 32\n"),
	})
	if f != (api.Fault{}) {
		t.Fatalf("%+v", f)
	}
	return i
}

const answer = "g: cjalr c0 0 of c1\n"

func TestWrittenRuns(t *testing.T) {
	// down goes down by itself, with a word of the stack for each, and tells in c10 how often it could, and the last answer in c11.
	down := "f: c.incaddrimm c2 c2 -16\ncsc c1 0 of c2\n" + kit.Call("d", "import.b.f") + "clc c1 0 of c2\nblt c10 c0 0 @16 deepest\naddi c10 c10 1\ncjalr c0 0 of c1\ndeepest: addi c11 c10 0\naddi c10 c0 1\ncjalr c0 0 of c1\n" + answer
	call := kit.Call("m", "import.b.f")
	for name, c := range map[string]struct {
		i     api.Image
		c10   uint32
		want  map[string]int
		steps int
	}{
		"frames are used up":      {written(t, 400, 5, 0, call, down), 5, map[string]int{"entry": 5, "refusal": 1, "return": 5}, 9000},
		"one frame":               {written(t, 400, 1, 0, call, down), 1, map[string]int{"entry": 1, "refusal": 1, "return": 1}, 9000},
		"the stack is used up":    {written(t, 96, 60, 32, call, down), 5, map[string]int{"entry": 5, "refusal": 1, "return": 5}, 9000},
		"just enough stack":       {written(t, 64, 2, 64, call, "f: addi c10 c0 3\ncjalr c0 0 of c1\n"+answer), 3, map[string]int{"entry": 1, "return": 1}, 9000},
		"eight too little":        {written(t, 64, 2, 72, call, "f: addi c10 c0 3\ncjalr c0 0 of c1\n"+answer), minus - 1, map[string]int{"refusal": 1}, 9000},
		"a window that is all":    {written(t, 64, 2, 64, "c.incaddrimm c2 c2 -8\n"+call, "f: addi c10 c0 3\ncjalr c0 0 of c1\n"+answer), minus - 1, map[string]int{"refusal": 1}, 9000},
		"the caller's way":        {written(t, 128, 4, 0, call, "f: addi c10 c0 3\n"+kit.Slot("x", "c6", "import.b.g")+kit.Slot("y", "c5", "switch")+"cjalr c0 0 of c5\n"+"g: addi c10 c10 4\ncjalr c0 0 of c1\n"), 7, map[string]int{"entry": 2, "return": 1, "return of more": 1}, 9000},
		"a trap":                  {written(t, 128, 4, 0, call, "f: ecall\n"+answer), minus, map[string]int{"entry": 1, "return": 1, "thrown out": 1, "cause 7": 1}, 9000},
		"a trap two calls deep":   {written(t, 128, 4, 0, call, "f: c.incaddrimm c2 c2 -8\ncsc c1 0 of c2\n"+kit.Call("x", "import.b.g")+"clc c1 0 of c2\naddi c10 c10 50\ncjalr c0 0 of c1\ng: sw c0 0 of c0\n"), 49, map[string]int{"entry": 2, "return": 2, "thrown out": 1, "cause 4": 1}, 9000},
		"far off":                 {written(t, 128, 4, 0, call, "f: cjal c0 524288\n"+answer), minus, map[string]int{"entry": 1, "none": 1, "return": 1, "thrown out": 1, "cause 1": 1}, 9000},
		"a way with no export":    {written(t, 128, 4, 0, kit.Slot("x", "c5", "switch")+"cjalr c1 0 of c5\n", "f: ecall\n"+answer), minus - 1, map[string]int{"refusal": 1}, 9000},
		"no way at all":           {written(t, 128, 4, 0, kit.Slot("z", "c6", "import.b.f")+kit.Slot("x", "c5", "switch")+"c.move c1 c0\ncjalr c0 0 of c5\n", "f: ecall\n"+answer), minus, map[string]int{"stop": 1}, 9000},
		"start comes back":        {written(t, 128, 4, 0, "cjalr c0 0 of c1\n", "f: ecall\n"+answer), 0, map[string]int{"stop": 1}, 9000},
		"interrupts stay off":     {written(t, 128, 4, 0, "auipcc c1 0\nc.incaddrimm c1 c1 32\nc.sentry c1 c1\n"+kit.Slot("z", "c6", "import.b.f")+kit.Slot("x", "c5", "switch")+"cjalr c0 0 of c5\n", "f: addi c10 c0 3\ncjalr c0 0 of c1\n"+answer), 3, map[string]int{"entry": 1, "return": 1}, 9000},
		"its globals handed on":   {written(t, 128, 4, 0, "c.move c11 c3\n"+call+"lw c10 8 of c3\n", "f: addi c4 c0 77\nsw c4 8 of c11\ncjalr c0 0 of c1\n"+answer), 77, map[string]int{"entry": 1, "return": 1, "handed": 2, "what was handed is touched": 1}, 9000},
		"kept from the last call": {written(t, 128, 4, 0, "c.move c11 c3\n"+call+"addi c4 c0 9\nsw c4 16 of c3\n"+kit.Call("n", "import.b.g"), "f: csc c11 0 of c3\ncjalr c0 0 of c1\ng: clc c4 0 of c3\nlw c10 16 of c4\ncjalr c0 0 of c1\n"), 9, map[string]int{"entry": 2, "return": 2, "handed": 4, "what was handed is touched": 1}, 9000},
		"the stack handed on":     {written(t, 128, 4, 0, "c.incaddrimm c2 c2 -16\nc.move c11 c2\nc.setboundsimm c11 c11 8\n"+call+"lw c10 0 of c2\n", "f: addi c4 c0 78\nsw c4 0 of c11\ncjalr c0 0 of c1\n"+answer), 78, map[string]int{"entry": 1, "return": 1, "handed": 1, "what was handed is touched": 1}, 9000},
		"the stack is not kept":   {written(t, 128, 4, 0, "c.incaddrimm c2 c2 -16\nc.move c11 c2\n"+call, "f: csc c11 0 of c3\ncjalr c0 0 of c1\n"+answer), minus, map[string]int{"entry": 1, "return": 1, "handed": 1, "thrown out": 1, "cause 4": 1}, 9000},
		"none of the old stack":   {written(t, 128, 4, 0, "addi c4 c0 5\nsw c4 -8 of c2\ncsc c3 -16 of c2\n"+call, "f: lw c10 -8 of c2\nclc c4 -16 of c2\nc.gettag c5 c4\nadd c10 c10 c5\nc.getaddr c4 c4\nadd c10 c10 c4\ncjalr c0 0 of c1\n"+answer), 0, map[string]int{"entry": 1, "return": 1}, 9000},
	} {
		t.Run(name, func(t *testing.T) {
			said := audited(t, c.i, nil, c.steps)
			for what, n := range said {
				if n != c.want[what] {
					t.Errorf("%s: %d times", what, n)
				}
			}
			for what, n := range c.want {
				if said[what] == 0 {
					t.Errorf("%s: never, not %d times", what, n)
				}
			}
			m, _ := run.New(c.i)
			m.Run(nil, c.steps)
			if got := m.State().Regs[10]; got != capa.Int(c.c10) {
				t.Errorf("c10 is %+v, not %d", got, c.c10)
			}
		})
	}
}
