package watch_test

import (
	"math"
	"reflect"
	"slices"
	"testing"

	"bulwark/api"
	"bulwark/capa"
	"bulwark/gate"
	"bulwark/instr"
	"bulwark/kit"
	"bulwark/link"
	"bulwark/watch"
)

func root(t *testing.T, base, top uint64, perms uint8) api.Cap {
	t.Helper()
	c, e := capa.Root(base, top, perms)
	if e != api.OK {
		t.Fatalf("Root(%d, %d): %d", base, top, e)
	}
	return c
}

func TestOwner(t *testing.T) {
	regions := []api.Region{
		{Kind: api.RegSwitch, Owner: -1, At: 64, N: 64}, {Kind: api.RegStack, Owner: -1, At: 128, N: 64}, {Kind: api.RegExports, Owner: 0, At: 192, N: 64}, {Kind: api.RegCode, Owner: 0, At: 256, N: 64}, {Kind: api.RegData, Owner: 0, At: 320, N: 64},
		{Kind: api.RegCode, Owner: 1, At: 384, N: 64}, {Kind: api.RegCode, Owner: 7, At: 448, N: 0}, {Kind: api.RegCode, Owner: -1, At: 512, N: 64}, {Kind: api.RegCode, Owner: 3, At: math.MaxUint32 - 7, N: 16},
	}
	far := root(t, 0, 8, 9)
	far.Addr, far.Bounds = math.MaxUint32, api.Bounds{E: 0, B: 508, T: 4}
	for name, c := range map[string]struct {
		pcc  api.Cap
		want int
	}{
		"null":                  {capa.Null(), api.OwnNone},
		"all of a":              {root(t, 256, 320, 29), 0},
		"some of a":             {root(t, 264, 272, 1), 0},
		"one byte of a":         {root(t, 319, 320, 8), 0},
		"elsewhere within":      {capa.SetAddr(root(t, 256, 320, 29), 322), 0},
		"all of b":              {root(t, 384, 448, 29), 1},
		"b's without a tag":     {capa.ClearTag(root(t, 384, 448, 29)), api.OwnNone},
		"a sentry":              {capa.Sentry(root(t, 384, 448, 29)), 1},
		"no byte":               {root(t, 264, 264, 29), api.OwnNone},
		"one too many below":    {root(t, 255, 320, 29), api.OwnNone},
		"one too many above":    {root(t, 256, 321, 29), api.OwnNone},
		"a and b":               {root(t, 256, 448, 29), api.OwnNone},
		"globals":               {root(t, 320, 384, 29), api.OwnNone},
		"exports":               {root(t, 192, 256, 29), api.OwnNone},
		"the switcher's bytes":  {root(t, 64, 128, 9), api.OwnNone},
		"the switcher":          {root(t, 64, 128, 88), api.OwnSwitch},
		"its right alone":       {root(t, 256, 320, 93), api.OwnSwitch},
		"its right, no byte":    {root(t, 256, 256, 64), api.OwnSwitch},
		"its right, no tag":     {capa.ClearTag(root(t, 64, 128, 88)), api.OwnNone},
		"nobody's code":         {root(t, 512, 576, 29), api.OwnNone},
		"no region":             {root(t, 4096, 8192, 29), api.OwnNone},
		"beyond the last place": {far, 3},
	} {
		if got := watch.Owner(regions, api.State{Pcc: c.pcc}); got != c.want {
			t.Errorf("%s: %d, not %d", name, got, c.want)
		}
	}
	if watch.Owner(nil, api.State{}) != api.OwnNone || watch.Owner(nil, api.State{Pcc: root(t, 0, 64, 88)}) != api.OwnSwitch || watch.Owner(nil, api.State{Pcc: root(t, 0, 64, 29)}) != api.OwnNone {
		t.Error("without regions")
	}
}

// lot is an image that nobody linked: its switcher's region stands at 64, the code of 0 at 4096, that of 1 at 8192.
func lot(t *testing.T, at uint32, l ...api.Instr) api.Image {
	t.Helper()
	i := api.Image{Bytes: make([]byte, 65280), Regions: []api.Region{{Kind: api.RegSwitch, Owner: -1, At: 64, N: 2048}, {Kind: api.RegCode, Owner: 0, At: 4096, N: 256}, {Kind: api.RegCode, Owner: 1, At: 8192, N: 256}}}
	for k, x := range l {
		put(t, &i, at+4*uint32(k), x)
	}
	i.Start.Pcc = capa.SetAddr(root(t, 64, 64+2048, 88), at)
	return i
}

func put(t *testing.T, i *api.Image, at uint32, x api.Instr) {
	t.Helper()
	w, e := instr.Put(x)
	if e != api.OK {
		t.Fatalf("%+v: %d", x, e)
	}
	for n := range uint32(4) {
		i.Bytes[at+n] = byte(w >> (8 * n))
	}
}

func TestKinds(t *testing.T) {
	place, _ := gate.Place("back")
	code := func(c, k uint32) api.Cap {
		at := 4096 * (c + 1)
		return capa.SetAddr(root(t, uint64(at), uint64(at)+256, 29), at+4*k)
	}
	switcher := root(t, 64, 64+2048, 88)
	back := capa.Seal(capa.SetAddr(switcher, 64+place), api.SentryOff)
	jump, mret := api.Instr{Op: api.Cjalr, Rs1: 5}, api.Instr{Op: api.Mret}
	for name, c := range map[string]struct {
		change func(i *api.Image)
		first  api.Instr
		rounds []api.Round
		want   []api.Change
	}{
		"a jump":              {func(i *api.Image) { i.Start.Regs[5] = code(0, 2) }, jump, nil, []api.Change{{Step: 0, From: -1, To: 0, At: 4104, Kind: api.ChangeReturn}}},
		"a jump with the way": {func(i *api.Image) { i.Start.Regs[5], i.Start.Regs[1] = code(1, 2), back }, jump, nil, []api.Change{{Step: 0, From: -1, To: 1, At: 8200, Kind: api.ChangeEntry}}},
		"the way made by it":  {func(i *api.Image) { i.Start.Regs[5] = code(1, 0) }, api.Instr{Op: api.Cjalr, Rd: 1, Rs1: 5}, nil, []api.Change{{Step: 0, From: -1, To: 1, At: 8192, Kind: api.ChangeReturn}}},
		"another type": {func(i *api.Image) {
			i.Start.Regs[5], i.Start.Regs[1] = code(0, 0), capa.Seal(capa.Unseal(back), api.SentryOn)
		}, jump, nil, []api.Change{{Step: 0, From: -1, To: 0, At: 4096, Kind: api.ChangeReturn}}},
		"another place": {func(i *api.Image) {
			i.Start.Regs[5], i.Start.Regs[1] = code(0, 0), capa.Seal(capa.SetAddr(switcher, 64), api.SentryOff)
		}, jump, nil, []api.Change{{Step: 0, From: -1, To: 0, At: 4096, Kind: api.ChangeReturn}}},
		"without its tag": {func(i *api.Image) { i.Start.Regs[5], i.Start.Regs[1] = code(0, 0), capa.ClearTag(back) }, jump, nil, []api.Change{{Step: 0, From: -1, To: 0, At: 4096, Kind: api.ChangeReturn}}},
		"no switcher's region": {func(i *api.Image) {
			i.Start.Regs[5], i.Start.Regs[1], i.Regions[0].Kind = code(0, 0), back, api.RegStack
		}, jump, nil, []api.Change{{Step: 0, From: -1, To: 0, At: 4096, Kind: api.ChangeReturn}}},
		"one that is not exact":   {func(i *api.Image) { i.Start.Regs[5], i.Regions[0].N = code(0, 0), 2047 }, jump, nil, []api.Change{{Step: 0, From: -1, To: 0, At: 4096, Kind: api.ChangeReturn}}},
		"mret":                    {func(i *api.Image) { i.Start.Mepcc, i.Start.Regs[1] = code(0, 3), back }, mret, nil, []api.Change{{Step: 0, From: -1, To: 0, At: 4108, Kind: api.ChangeResume}}},
		"mret to none":            {func(i *api.Image) { i.Start.Mepcc = root(t, 4096, 8448, 29) }, mret, nil, []api.Change{{Step: 0, From: -1, To: -2, At: 4096}}},
		"mret without a tag":      {func(i *api.Image) {}, mret, nil, []api.Change{{Step: 0, From: -1, To: -2}}},
		"mret to itself":          {func(i *api.Image) { i.Start.Mepcc = i.Start.Pcc }, mret, nil, nil},
		"a jump to where mret is": {func(i *api.Image) { i.Start.Mepcc, i.Start.Regs[5] = code(0, 0), code(0, 0) }, jump, nil, []api.Change{{Step: 0, From: -1, To: 0, At: 4096, Kind: api.ChangeReturn}}},
		"a timer, not mret":       {func(i *api.Image) { i.Start.Mepcc, i.Start.Mtcc, i.Start.On = code(1, 0), code(1, 0), true }, mret, []api.Round{{Timer: true}}, []api.Change{{Step: 0, From: -1, To: 1, At: 8192, Kind: api.ChangeReturn}}},
		"a timer with the way":    {func(i *api.Image) { i.Start.Mtcc, i.Start.On, i.Start.Regs[1] = code(1, 0), true, back }, mret, []api.Round{{Timer: true}}, []api.Change{{Step: 0, From: -1, To: 1, At: 8192, Kind: api.ChangeEntry}}},
		"a timer that is off":     {func(i *api.Image) { i.Start.Mepcc, i.Start.Mtcc = code(0, 0), code(1, 0) }, mret, []api.Round{{Timer: true}}, []api.Change{{Step: 0, From: -1, To: 0, At: 4096, Kind: api.ChangeResume}}},
		"a trap":                  {func(i *api.Image) { i.Start.Mtcc = code(0, 1) }, api.Instr{Op: api.Ecall}, nil, []api.Change{{Step: 0, From: -1, To: 0, At: 4100, Kind: api.ChangeReturn}}},
	} {
		i := lot(t, 64, c.first)
		c.change(&i)
		got, e := watch.Changes(i, c.rounds, 1)
		if e != api.OK || len(got)+len(c.want) > 0 && !reflect.DeepEqual(got, c.want) {
			t.Errorf("%s: %+v, %d", name, got, e)
		}
	}
}

// From one compartment to another, to none, and to the switcher; and back again.
func TestChangesInOrder(t *testing.T) {
	i := lot(t, 64, api.Instr{Op: api.Cjalr, Rs1: 5})
	put(t, &i, 4096, api.Instr{Op: api.Addi, Rd: 7, Imm: 1})
	put(t, &i, 4100, api.Instr{Op: api.Cjalr, Rs1: 6})
	put(t, &i, 8192, api.Instr{Op: api.Cjal, Imm: 1 << 19})
	i.Start.Regs[5], i.Start.Regs[6] = root(t, 4096, 4352, 29), root(t, 8192, 8448, 29)
	i.Start.Mtcc = root(t, 64, 64+2048, 88)
	want := []api.Change{
		{Step: 0, From: -1, To: 0, At: 4096, Kind: api.ChangeReturn}, {Step: 2, From: 0, To: 1, At: 8192}, {Step: 3, From: 1, To: -2, At: 8192 + 1<<19}, {Step: 4, From: -2, To: -1, At: 64},
		{Step: 5, From: -1, To: 0, At: 4096, Kind: api.ChangeReturn}, {Step: 7, From: 0, To: 1, At: 8192}, {Step: 8, From: 1, To: -2, At: 8192 + 1<<19}, {Step: 9, From: -2, To: -1, At: 64},
	}
	for steps, n := range map[int]int{0: 0, 1: 1, 2: 1, 3: 2, 4: 3, 5: 4, 10: 8} {
		if got, e := watch.Changes(i, nil, steps); e != api.OK || !slices.Equal(got, want[:n]) {
			t.Errorf("%d: %+v, %d", steps, got, e)
		}
	}
	i.Start.Mtcc.Tag = false
	if got, e := watch.Changes(i, nil, 100); e != api.OK || !slices.Equal(got, want[:3]) {
		t.Errorf("%+v, %d: a machine that is Halted does nothing", got, e)
	}
	if got, e := watch.Touched(i, nil, 100000); e != api.OK || !slices.Equal(got, []api.Reached{{Owner: -1, What: 1, At: 64, N: 4}, {Owner: 0, What: 1, At: 4096, N: 8}, {Owner: 1, What: 1, At: 8192, N: 4}}) {
		t.Errorf("%+v, %d", got, e)
	}
}

func TestErrors(t *testing.T) {
	i := lot(t, 64, api.Instr{Op: api.Cjal})
	for name, c := range map[string]struct {
		i     api.Image
		steps int
		want  api.Errno
	}{
		"an empty image": {api.Image{}, 1, api.ErrForm}, "form ahead of arg": {api.Image{}, -1, api.ErrForm}, "below 0": {i, -1, api.ErrArg}, "too many": {i, 100001, api.ErrArg}, "far too many": {i, math.MaxInt, api.ErrArg}, "far below": {i, math.MinInt, api.ErrArg}, "none": {i, 0, api.OK}, "all": {i, 100000, api.OK},
	} {
		if l, e := watch.Changes(c.i, nil, c.steps); e != c.want || len(l) != 0 {
			t.Errorf("%s: Changes: %v, %d", name, l, e)
		}
		if l, e := watch.Touched(c.i, nil, c.steps); e != c.want || (len(l) != 0) != (name == "all") {
			t.Errorf("%s: Touched: %v, %d", name, l, e)
		}
	}
}

// Spans that meet, or reach over each other, are one; with a gap of a byte between they are two.
func TestSpans(t *testing.T) {
	store := func(op api.Op, at int32) api.Instr { return api.Instr{Op: op, Rs1: 5, Rs2: 6, Imm: at} }
	load := func(op api.Op, at int32) api.Instr { return api.Instr{Op: op, Rd: 7, Rs1: 5, Imm: at} }
	l := []api.Instr{
		store(api.Sw, 8), store(api.Sb, 12), store(api.Sb, 14), store(api.Sw, 4), store(api.Csc, 8), store(api.Sb, 9),
		load(api.Lb, 30), load(api.Lh, 30), load(api.Lw, 24), load(api.Clc, 40), load(api.Lbu, 33), load(api.Lb, 30), load(api.Lw, 36),
		{Op: api.Cjalr, Rs1: 8},
	}
	i := lot(t, 64, l...)
	i.Start.Regs[5], i.Start.Regs[8] = root(t, 16384, 16640, 7), root(t, 4096, 4352, 29)
	put(t, &i, 4096, store(api.Sb, 15))
	put(t, &i, 4100, load(api.Lw, 28))
	put(t, &i, 4104, api.Instr{Op: api.Cjalr, Rs1: 9, Imm: 2})
	want := []api.Reached{
		{Owner: -1, What: 1, At: 64, N: 56}, {Owner: -1, What: 2, At: 16408, N: 4}, {Owner: -1, What: 2, At: 16414, N: 2}, {Owner: -1, What: 2, At: 16417, N: 1}, {Owner: -1, What: 2, At: 16420, N: 12}, {Owner: -1, What: 3, At: 16388, N: 12},
		{Owner: 0, What: 1, At: 4096, N: 12}, {Owner: 0, What: 2, At: 16412, N: 4}, {Owner: 0, What: 3, At: 16399, N: 1},
	}
	if got, e := watch.Touched(i, nil, 100); e != api.OK || !slices.Equal(got, want) {
		t.Errorf("%+v, %d", got, e)
	}
	if got, _ := watch.Touched(i, []api.Round{{Timer: true}}, 3); !slices.Equal(got, []api.Reached{{Owner: -1, What: 1, At: 64, N: 12}, {Owner: -1, What: 3, At: 16392, N: 5}, {Owner: -1, What: 3, At: 16398, N: 1}}) {
		t.Errorf("of three steps: %+v", got)
	}
	i.Start.Pcc = root(t, 64, 64+2048, 9)
	if got, _ := watch.Touched(i, nil, 1); !slices.Equal(got, []api.Reached{{Owner: -2, What: 1, At: 64, N: 4}, {Owner: -2, What: 3, At: 16392, N: 4}}) {
		t.Errorf("of none: %+v", got)
	}
}

// A call and a way back, as they are linked.
func TestACall(t *testing.T) {
	i, f := link.Link("stack 128\ntrusted 2\ncompartment a\ncompartment b\nobject a a.o\nobject b b.o\nexport a main 0 0\nexport b f 1 16\nimport a b f\ndevice b led 65280 4\nstart a main\n", []api.File{
		kit.File("a.o", ".section .text 6 4\n.global main\nmain: addi c10 c0 5\n"+kit.Call("m", "import.b.f")+"rest: cjal c0 0 @17 rest\n"),
		kit.File("b.o", ".section .text 6 4\n.global f\nf: addi c10 c10 1\n"+kit.Slot("d", "c4", "device.led")+"sw c10 0 of c4\ncsc c1 -8 of c2\nsw c0 0 of c3\ncjalr c0 0 of c1\n.zero .bss 3 8 8\n"),
	})
	if f != (api.Fault{}) {
		t.Fatalf("%+v", f)
	}
	at := func(kind uint8, owner int) uint32 {
		return i.Regions[slices.IndexFunc(i.Regions, func(r api.Region) bool { return r.Kind == kind && r.Owner == owner })].At
	}
	enter, _ := gate.Place("enter")
	back, _ := gate.Place("back")
	trap, _ := gate.Place("trap")
	a, b := at(api.RegCode, 0)+16, at(api.RegCode, 1)+16
	type way struct {
		from, to, kind int
		at             uint32
	}
	ways := func(l []api.Change) []way {
		var all []way
		for _, c := range l {
			all = append(all, way{c.From, c.To, c.Kind, c.At})
		}
		return all
	}
	l, e := watch.Changes(i, nil, 1000)
	if e != api.OK || !slices.Equal(ways(l), []way{{0, -1, 0, 64 + enter}, {-1, 0 + 1, api.ChangeEntry, b}, {1, -1, 0, 64 + back}, {-1, 0, api.ChangeReturn, a + 24}}) {
		t.Errorf("%+v, %d", l, e)
	}
	rounds := make([]api.Round, 3)
	rounds[2].Timer = true
	l, e = watch.Changes(i, rounds, 20)
	if e != api.OK || !slices.Equal(ways(l), []way{{0, -1, 0, 64 + trap}, {-1, 0, api.ChangeResume, a + 8}, {0, -1, 0, 64 + enter}}) || l[0].Step != 2 || l[1].Step != 7 {
		t.Errorf("%+v, %d", l, e)
	}
	all, e := watch.Touched(i, nil, 1000)
	var of []api.Reached
	for _, r := range all {
		if r.Owner == 1 {
			of = append(of, r)
		}
	}
	stack := at(api.RegStack, -1)
	if e != api.OK || !slices.Equal(of, []api.Reached{{Owner: 1, What: 1, At: b, N: 28}, {Owner: 1, What: 2, At: b - 8, N: 8}, {Owner: 1, What: 3, At: stack + 120, N: 8}, {Owner: 1, What: 3, At: at(api.RegData, 1), N: 4}, {Owner: 1, What: 3, At: 65280, N: 4}}) {
		t.Errorf("%+v, %d", of, e)
	}
}
