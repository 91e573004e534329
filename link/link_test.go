package link_test

import (
	"encoding/binary"
	"reflect"
	"slices"
	"strings"
	"testing"

	"bulwark/api"
	"bulwark/ar"
	"bulwark/bounds"
	"bulwark/capa"
	"bulwark/elf"
	"bulwark/gate"
	"bulwark/instr"
	"bulwark/kit"
	"bulwark/link"
	"bulwark/memory"
	"bulwark/tables"
)

const head = "stack 256\ntrusted 4\n"

const onePlan = head + "compartment a\nobject a a.o\nexport a main 0 64\nstart a main\n"

const oneText = `
.section .text 6 4
.global main
addi c1 c0 1
main: addi c10 c0 7
`

const twoPlan = head + `share pool 40
compartment a
compartment b
object a a.o
archive a lib.a
object b b.o
export a main 0 64
export b f 2 32
export b g 6 4088
import a b g
import a b f
device a led 65280 8
give a pool rw
give b pool r
start a main
`

const aText = `
.section .text 6 4
.global main
main: auipcc c5 0 @23 helper
cjalr c1 0 of c5
`

const helperText = `
.section .text 6 4
.global helper
helper: addi c10 c0 1
`

const bText = `
.section .text 6 16
.global f
.global g
f: addi c10 c0 2
g: addi c10 c0 3
.section .data 3 8
.word 0x11223344
.zero .bss 3 8 12
.common shared 24
`

func archive(t *testing.T, name string, index []api.Indexed, members ...api.File) api.File {
	t.Helper()
	var l []api.Member
	for _, f := range members {
		l = append(l, api.Member{Name: f.Name, Bytes: f.Bytes})
	}
	b, e := ar.Put(l, index)
	if e != api.OK {
		t.Fatal(e)
	}
	return api.File{Name: name, Bytes: b}
}

func twoFiles(t *testing.T) []api.File {
	return []api.File{kit.File("a.o", aText), archive(t, "lib.a", []api.Indexed{{Name: "helper"}}, kit.File("h.o", helperText)), kit.File("b.o", bText)}
}

func linked(t *testing.T, text string, files ...api.File) api.Image {
	t.Helper()
	i, f := link.Link(text, files)
	if f != (api.Fault{}) {
		t.Fatalf("%+v", f)
	}
	return i
}

func region(t *testing.T, i api.Image, kind uint8, owner int) api.Region {
	t.Helper()
	r, ok := tables.Region(i.Regions, kind, owner)
	if !ok {
		t.Fatalf("no region %d of %d", kind, owner)
	}
	return r
}

func word(i api.Image, at uint32) uint32 { return binary.LittleEndian.Uint32(i.Bytes[at:]) }

func cap8(t *testing.T, i api.Image, at uint32) api.Cap {
	t.Helper()
	m, e := link.Load(i)
	if e != api.OK {
		t.Fatal(e)
	}
	c, e := m.LoadCap(at)
	if e != api.OK {
		t.Fatal(e)
	}
	return c
}

func mustCap(t *testing.T, r api.Region, perms uint8, at uint32) api.Cap {
	t.Helper()
	c, e := tables.Cap(r, perms, at)
	if e != api.OK {
		t.Fatal(e)
	}
	return c
}

func TestExamples(t *testing.T) {
	if i, f := link.Link("", nil); f != (api.Fault{E: api.ErrNone, What: 1}) || !reflect.DeepEqual(i, api.Image{}) {
		t.Errorf("%+v", f)
	}
	if i, f := link.Link(head+"compartment a\nexport a main 0 64\nstart a main\n", nil); f != (api.Fault{E: api.ErrNone, What: 5, Name: "main"}) || !reflect.DeepEqual(i, api.Image{}) {
		t.Errorf("%+v", f)
	}
}

func TestImage(t *testing.T) {
	i := linked(t, twoPlan, twoFiles(t)...)
	gateSize := uint32(gate.Size()+7) &^ 7
	if r := region(t, i, api.RegSwitch, -1); r.At != 64 || r.N != gateSize {
		t.Errorf("%v", r)
	}
	for k, w := range gate.Words() {
		if word(i, 64+4*uint32(k)) != w {
			t.Fatalf("the switcher's word %d", k)
		}
	}
	codeA, codeB, dataB := region(t, i, api.RegCode, 0), region(t, i, api.RegCode, 1), region(t, i, api.RegData, 1)
	slots, _ := tables.Slots(i.Plan, i.Regions, 0)
	for k, s := range slots {
		if got := cap8(t, i, codeA.At+8*uint32(k)); got != s {
			t.Errorf("slot %d: %v, not %v", k, got, s)
		}
	}
	// b has two slots, and its text at the next multiple of 16.
	fills, entry, _ := tables.Entry(i.Regions, 1, codeB.At+16+4, 6, 4088)
	exports := region(t, i, api.RegExports, 1)
	if cap8(t, i, exports.At+24) != fills[0].Cap || cap8(t, i, exports.At+32) != fills[1].Cap || word(i, exports.At+40) != entry || word(i, exports.At+44) != 0 {
		t.Error("the second entry of b")
	}
	if word(i, dataB.At) != 0x11223344 || word(i, codeB.At+16) != 0x00200513 {
		t.Error("sections' bytes")
	}
	wantTags := []int{}
	for _, r := range []api.Region{region(t, i, api.RegExports, 0), codeA, exports, codeB} {
		for at := r.At; at < r.At+r.N; at += 8 {
			n := 5
			if r.Owner == 1 {
				n = 2
			}
			if r.Kind == api.RegExports && (at-r.At)%24 != 16 || r.Kind == api.RegCode && at < r.At+8*uint32(n) {
				wantTags = append(wantTags, int(at/8))
			}
		}
	}
	if !slices.Equal(i.Tags, wantTags) {
		t.Errorf("tags %v, not %v", i.Tags, wantTags)
	}
	if len(i.Bytes) != 65280 {
		t.Errorf("%d bytes", len(i.Bytes))
	}
}

func TestStart(t *testing.T) {
	i := linked(t, onePlan, kit.File("a.o", oneText))
	gateR, code, data := region(t, i, api.RegSwitch, -1), region(t, i, api.RegCode, 0), region(t, i, api.RegData, 0)
	stack, trusted := region(t, i, api.RegStack, -1), region(t, i, api.RegTrusted, -1)
	place := func(s string) uint32 { at, _ := gate.Place(s); return gateR.At + at }
	want := api.State{
		Pcc:  mustCap(t, code, 29, code.At+8+4),
		Mtcc: mustCap(t, gateR, 88, place("trap")),
		Mtdc: mustCap(t, trusted, 39, trusted.At),
		On:   true,
	}
	want.Regs[1] = capa.Seal(mustCap(t, gateR, 88, place("back")), api.SentryOff)
	want.Regs[2] = mustCap(t, stack, 39, stack.At+stack.N)
	want.Regs[3] = mustCap(t, data, 23, data.At)
	if i.Start != want {
		t.Errorf("%+v", i.Start)
	}
	if capa.Base(i.Start.Regs[2]) != uint64(stack.At) || stack.N != 256 || trusted.N != 128 {
		t.Error("the stacks")
	}
}

// Each kind of field, in code and globals, of each sort of symbol.
func TestFields(t *testing.T) {
	text := `
.section .text 6 8
.global main
.global far
.weak nowhere
main: addi c0 c0 0
h: auipcc c5 0 @23 x 5
clc c5 0 of c5 @24 h 99
csc c5 0 of c5 @25 h
beq c0 c0 0 @16 main
cjal c1 0 @17 here -4
lui c5 0 @26 far 0x900
addi c5 c5 0 @27 far 0x900
sw c5 0 of c5 @28 far 0x900
lw c5 0 of c3 @193 x 4
sw c5 0 of c3 @194 x 8
.word 7 @1 import.a.main 3
.word 7 @1 abs 1
.word 7 @1 big
.word 7 @1 nowhere 9
.word 7 @1 - 11
.word 7 @1 switch
.word 7 @51 main
.word 7 @0 main
here: .word 7 @1 lost
.section .data 3 8
.bytes 4
x: .word 1 @1 x -1
.section .ro 2 32
far: .word 5 @1 here
.section .debug 0 1
nobody: .word 6 @99 import.nobody
.abs abs 0x12345678
.common big 20
`
	o := kit.Object(text)
	for k, s := range o.Symbols {
		if s.Name == "lost" || s.Name == "import.nobody" {
			o.Symbols[k].Bind = 2
		}
	}
	b, e := elf.Put(o)
	if e != api.OK {
		t.Fatal(e)
	}
	i := linked(t, head+"compartment a\nobject a a.o\nexport a main 0 64\nimport a a main\nstart a main\n", api.File{Name: "a.o", Bytes: b})
	code, data := region(t, i, api.RegCode, 0), region(t, i, api.RegData, 0)
	textAt := code.At + 16
	x, here, far := data.At+4, textAt+4*19, (textAt+4*20+31)&^31
	big := (data.At + 8 + 7) &^ 7
	if code.At%32 != 0 {
		t.Fatalf("%v", code)
	}
	imm := func(k uint32) uint32 {
		in, e := instr.Get(word(i, textAt+4*k))
		if e != api.OK {
			t.Errorf("%d is no instruction", k)
		}
		return uint32(in.Imm)
	}
	d := x + 5 - (textAt + 4)
	high := (d + 2048) &^ 4095
	farHigh := (far + 0x900 + 2048) &^ 4095
	for k, want := range map[uint32]uint32{
		1: high, 2: d - high, 3: d - high, 4: textAt - (textAt + 16), 5: here - 4 - (textAt + 20), 6: farHigh, 7: far + 0x900 - farHigh, 8: far + 0x900 - farHigh, 9: 8, 10: 12,
	} {
		if got := imm(k); got != want {
			t.Errorf("instruction %d: %d, not %d", k, int32(got), int32(want))
		}
	}
	for at, want := range map[uint32]uint32{
		textAt + 44: code.At + 8 + 3, textAt + 48: 0x12345679, textAt + 52: big, textAt + 56: 9, textAt + 60: 11, textAt + 64: code.At, textAt + 68: 7, textAt + 72: 7, here: 0, x: x - 1, far: here,
	} {
		if got := word(i, at); got != want {
			t.Errorf("word at %d: %x, not %x", at-textAt, got, want)
		}
	}
}

// Fields are done in order, each in what the ones ahead of it left; also at places that are no multiples of four.
func TestFieldsInOrder(t *testing.T) {
	o := kit.Object(oneText + ".section .data 3 8\n.bytes 8\n.abs v 0x01020304\n")
	v := slices.IndexFunc(o.Symbols, func(s api.Symbol) bool { return s.Name == "v" })
	o.Relocs = []api.Reloc{{Section: 1, At: 0, Kind: 1, Symbol: v}, {Section: 1, At: 2, Kind: 1, Symbol: v}, {Section: 1, At: 1, Kind: 1, Symbol: v}}
	b, _ := elf.Put(o)
	i := linked(t, onePlan, api.File{Name: "a.o", Bytes: b})
	at := region(t, i, api.RegData, 0).At
	if got := i.Bytes[at : at+8]; !slices.Equal(got, []byte{4, 4, 3, 2, 1, 1, 0, 0}) {
		t.Errorf("%v", got)
	}
}

func TestFaults(t *testing.T) {
	a := kit.File("a.o", oneText)
	with := func(text string) api.File { return kit.File("a.o", oneText+text) }
	object := func(change func(o *api.Object)) api.File {
		o := kit.Object(oneText + ".section .data 3 8\n.bytes 8\n")
		change(&o)
		b, e := elf.Put(o)
		if e != api.OK {
			t.Fatal(e)
		}
		return api.File{Name: "a.o", Bytes: b}
	}
	two := head + "compartment a\ncompartment b\nobject a a.o\nobject b b.o\nexport a main 0 64\nexport b f 0 0\nstart a main\n"
	b := kit.File("b.o", ".section .text 6 4\n.global f\nf: addi c0 c0 0\n")
	huge := ".bytes 32000\n"
	for name, c := range map[string]struct {
		plan  string
		files []api.File
		want  api.Fault
	}{
		"fine":                      {onePlan, []api.File{a}, api.Fault{}},
		"a line of the plan":        {onePlan + "start b main", nil, api.Fault{E: api.ErrNone, What: 1, Line: 7}},
		"the plan ahead of files":   {onePlan + "x", nil, api.Fault{E: api.ErrForm, What: 1, Line: 7}},
		"no file":                   {onePlan, nil, api.Fault{E: api.ErrNone, What: 2, Name: "a.o"}},
		"a file twice":              {onePlan, []api.File{a, a}, api.Fault{E: api.ErrTwice, What: 2, Name: "a.o"}},
		"a needless file twice":     {onePlan, []api.File{a, b, b}, api.Fault{}},
		"no object":                 {onePlan, []api.File{{Name: "a.o"}}, api.Fault{E: api.ErrShort, What: 2, Name: "a"}},
		"no object, form":           {onePlan, []api.File{{Name: "a.o", Bytes: make([]byte, 60)}}, api.Fault{E: api.ErrForm, What: 2, Name: "a"}},
		"too long an object":        {onePlan, []api.File{{Name: "a.o", Bytes: make([]byte, 65537)}}, api.Fault{E: api.ErrLimit, What: 2, Name: "a"}},
		"none ahead of twice":       {strings.Replace(onePlan, "export", "object a b.o\nobject a c.o\nexport", 1), []api.File{a, a, b}, api.Fault{E: api.ErrNone, What: 2, Name: "c.o"}},
		"files by compartments":     {two, []api.File{{Name: "a.o"}}, api.Fault{E: api.ErrShort, What: 2, Name: "a"}},
		"files of the second":       {two, []api.File{a}, api.Fault{E: api.ErrNone, What: 2, Name: "b.o"}},
		"files ahead of symbols":    {two, []api.File{with(".word 0 @1 nobody"), {Name: "b.o"}}, api.Fault{E: api.ErrShort, What: 2, Name: "b"}},
		"a symbol of none":          {onePlan, []api.File{with(".word 0 @1 zz\n.word 0 @1 nobody")}, api.Fault{E: api.ErrNone, What: 3, Name: "nobody"}},
		"a symbol twice":            {strings.Replace(onePlan, "export", "object a c.o\nexport", 1), []api.File{a, kit.File("c.o", oneText)}, api.Fault{E: api.ErrTwice, What: 3, Name: "main"}},
		"an import of another":      {two, []api.File{with(".word 0 @1 import.b.f"), b}, api.Fault{E: api.ErrNone, What: 3, Name: "import.b.f"}},
		"another's symbol":          {two, []api.File{with(".word 0 @1 f"), b}, api.Fault{E: api.ErrNone, What: 3, Name: "f"}},
		"symbols ahead of room":     {onePlan, []api.File{with(huge + ".section .b 3 8\n.word 0 @1 nobody")}, api.Fault{E: api.ErrNone, What: 3, Name: "nobody"}},
		"room":                      {strings.Replace(onePlan, "export", "object a c.o\nobject a d.o\nexport", 1), []api.File{a, kit.File("c.o", ".section .b 3 8\n"+huge), kit.File("d.o", ".zero .b 3 8 32768")}, api.Fault{E: api.ErrLimit, What: 4}},
		"room ahead of exports":     {strings.Replace(onePlan, "export", "export a none 0 0\nobject a c.o\nobject a d.o\nexport", 1), []api.File{a, kit.File("c.o", ".section .b 3 8\n"+huge), kit.File("d.o", ".zero .b 3 8 32768")}, api.Fault{E: api.ErrLimit, What: 4}},
		"an export of none":         {strings.Replace(onePlan, "start", "export a g 0 0\nstart", 1), []api.File{a}, api.Fault{E: api.ErrNone, What: 5, Name: "g"}},
		"a local export":            {strings.Replace(onePlan, "start", "export a g 0 0\nstart", 1), []api.File{with("g: addi c0 c0 0")}, api.Fault{E: api.ErrNone, What: 5, Name: "g"}},
		"a weak export":             {strings.Replace(onePlan, "start", "export a g 0 0\nstart", 1), []api.File{with(".weak g\ng: addi c0 c0 0")}, api.Fault{}},
		"an undefined weak export":  {strings.Replace(onePlan, "start", "export a g 0 0\nstart", 1), []api.File{with(".weak g\n.word 0 @1 g")}, api.Fault{E: api.ErrNone, What: 5, Name: "g"}},
		"an export of the linker's": {strings.Replace(onePlan, "start", "export a switch 0 0\nstart", 1), []api.File{with(".word 0 @1 switch")}, api.Fault{E: api.ErrNone, What: 5, Name: "switch"}},
		"an export in globals":      {strings.Replace(onePlan, "start", "export a g 0 0\nstart", 1), []api.File{with(".section .d 3 8\n.global g\ng: .word 0")}, api.Fault{E: api.ErrNone, What: 5, Name: "g"}},
		"an export in no place":     {strings.Replace(onePlan, "start", "export a g 0 0\nstart", 1), []api.File{with(".section .d 4 8\n.global g\ng: .word 0")}, api.Fault{E: api.ErrNone, What: 5, Name: "g"}},
		"an absolute export":        {strings.Replace(onePlan, "start", "export a g 0 0\nstart", 1), []api.File{with(".global g\n.abs g 1800")}, api.Fault{E: api.ErrNone, What: 5, Name: "g"}},
		"a common export":           {strings.Replace(onePlan, "start", "export a g 0 0\nstart", 1), []api.File{with(".common g 4")}, api.Fault{E: api.ErrNone, What: 5, Name: "g"}},
		"an export of no four":      {onePlan, []api.File{object(func(o *api.Object) { o.Symbols[0].Value = 2 })}, api.Fault{E: api.ErrNone, What: 5, Name: "main"}},
		"an export far behind":      {onePlan, []api.File{object(func(o *api.Object) { o.Symbols[0].Value = 4096 })}, api.Fault{E: api.ErrNone, What: 5, Name: "main"}},
		"exports by compartments":   {strings.Replace(two, "start", "export b g 0 0\nexport a h 0 0\nstart", 1), []api.File{a, b}, api.Fault{E: api.ErrNone, What: 5, Name: "h"}},
		"exports ahead of fields":   {strings.Replace(two, "start", "export b g 0 0\nstart", 1), []api.File{with(".word 0 @99 -"), b}, api.Fault{E: api.ErrNone, What: 5, Name: "g"}},
		"no such kind":              {onePlan, []api.File{with(".word 0 @99 -")}, api.Fault{E: api.ErrForm, What: 6, Name: "a"}},
		"a field of b":              {two, []api.File{a, kit.File("b.o", ".section .text 6 4\n.global f\nf: addi c0 c0 0\n.word 0 @99 -")}, api.Fault{E: api.ErrForm, What: 6, Name: "b"}},
		"too far":                   {onePlan, []api.File{with("beq c0 c0 0 @16 main 8192")}, api.Fault{E: api.ErrLimit, What: 6, Name: "a"}},
		"no such form":              {onePlan, []api.File{with("beq c0 c0 0 @17 main")}, api.Fault{E: api.ErrForm, What: 6, Name: "a"}},
		"a symbol of no place":      {onePlan, []api.File{with(".word 0 @1 d\n.section .debug 0 1\nd: .word 0")}, api.Fault{E: api.ErrOut, What: 6, Name: "a"}},
		"no place, of Kind 51":      {onePlan, []api.File{with(".word 0 @51 d\n.section .debug 0 1\nd: .word 0")}, api.Fault{E: api.ErrOut, What: 6, Name: "a"}},
		"no place, and no kind":     {onePlan, []api.File{with(".word 0 @99 d\n.section .debug 0 1\nd: .word 0")}, api.Fault{E: api.ErrOut, What: 6, Name: "a"}},
		"24 without 23":             {onePlan, []api.File{with("clc c5 0 of c5 @24 main")}, api.Fault{E: api.ErrForm, What: 6, Name: "a"}},
		"24 of a 23 elsewhere":      {onePlan, []api.File{with("clc c5 0 of c5 @24 h\n.section .u 6 4\nh: auipcc c5 0 @23 main")}, api.Fault{E: api.ErrForm, What: 6, Name: "a"}},
		"24 ahead of its 23":        {onePlan, []api.File{with("clc c5 0 of c5 @24 h\nh: auipcc c5 0 @23 main")}, api.Fault{}},
		"24 of no place":            {onePlan, []api.File{with("clc c5 0 of c5 @24 d\n.section .debug 0 1\nd: .word 0")}, api.Fault{E: api.ErrOut, What: 6, Name: "a"}},
		"half within": {onePlan, []api.File{object(func(o *api.Object) {
			o.Sections[1].Size, o.Sections[1].Bytes = 6, make([]byte, 6)
			o.Relocs = []api.Reloc{{Section: 1, At: 3, Kind: 1, Symbol: -1}}
		})}, api.Fault{E: api.ErrForm, What: 6, Name: "a"}},
		"just within": {onePlan, []api.File{object(func(o *api.Object) {
			o.Sections[1].Size, o.Sections[1].Bytes = 6, make([]byte, 6)
			o.Relocs = []api.Reloc{{Section: 1, At: 2, Kind: 1, Symbol: -1}}
		})}, api.Fault{}},
		"half within, of Kind 51": {onePlan, []api.File{object(func(o *api.Object) {
			o.Relocs = []api.Reloc{{Section: 1, At: 5, Kind: 51, Symbol: -1}, {Section: 1, At: 5, Kind: 0, Symbol: -1}}
		})}, api.Fault{}},
		"a small section": {onePlan, []api.File{object(func(o *api.Object) {
			o.Sections[1].Size, o.Sections[1].Bytes = 3, make([]byte, 3)
			o.Relocs = []api.Reloc{{Section: 1, At: 0, Kind: 1, Symbol: -1}}
		})}, api.Fault{E: api.ErrForm, What: 6, Name: "a"}},
		"form ahead of out": {onePlan, []api.File{object(func(o *api.Object) {
			o.Sections[1].Flags = 0
			o.Relocs = []api.Reloc{{Section: 0, At: 7, Kind: 1, Symbol: 0}}
		})}, api.Fault{E: api.ErrForm, What: 6, Name: "a"}},
		"a section of no place": {onePlan, []api.File{with(".section .debug 0 1\n.word 0 @99 -")}, api.Fault{}},
		"the first field":       {onePlan, []api.File{with("beq c0 c0 0 @16 main 8192\n.word 0 @99 -")}, api.Fault{E: api.ErrLimit, What: 6, Name: "a"}},
	} {
		i, f := link.Link(c.plan, c.files)
		if f != c.want {
			t.Errorf("%s: %+v", name, f)
		}
		if image := len(i.Bytes) == 65280; image != (f == api.Fault{}) || !image && !reflect.DeepEqual(i, api.Image{}) {
			t.Errorf("%s: an image, a fault, both", name)
		}
	}
}

// A member of an archive is named by the archive; what nobody wants is not in.
func TestMembers(t *testing.T) {
	files := twoFiles(t)
	files[1] = archive(t, "lib.a", []api.Indexed{{Name: "helper"}, {Name: "huge", Member: 1}}, kit.File("h.o", helperText), kit.File("n.o", ".section .d 3 8\n.bytes 32000"))
	i := linked(t, twoPlan, files...)
	j := linked(t, twoPlan, twoFiles(t)...)
	if !reflect.DeepEqual(i, j) {
		t.Error("what nobody wants changed the image")
	}
}

func TestOrderOfFiles(t *testing.T) {
	files := twoFiles(t)
	want := linked(t, twoPlan, files...)
	for _, order := range [][]int{{0, 2, 1}, {1, 0, 2}, {1, 2, 0}, {2, 0, 1}, {2, 1, 0}, {0, 1, 2}} {
		var l []api.File
		for _, k := range order {
			l = append(l, files[k])
		}
		if got := linked(t, twoPlan, append(l, api.File{Name: "more"})...); !reflect.DeepEqual(got, want) {
			t.Errorf("%v: another image", order)
		}
	}
}

// Regions are exact and apart, and bytes outside of them are 0.
func TestRegions(t *testing.T) {
	i := linked(t, twoPlan, twoFiles(t)...)
	inside := make([]bool, 65280)
	for _, r := range i.Regions {
		if _, e := bounds.Exact(uint64(r.At), uint64(r.At+r.N)); e != api.OK {
			t.Errorf("%v is not exact", r)
		}
		for at := r.At; at < r.At+r.N; at++ {
			if inside[at] {
				t.Fatalf("%v is not apart", r)
			}
			inside[at] = true
		}
	}
	for at, b := range i.Bytes {
		if b != 0 && !inside[at] {
			t.Fatalf("a byte at %d", at)
		}
	}
}

func TestLoad(t *testing.T) {
	i := linked(t, twoPlan, twoFiles(t)...)
	m, e := link.Load(i)
	if e != api.OK {
		t.Fatal(e)
	}
	b, _ := m.Bytes(0, 65280)
	if !slices.Equal(b, i.Bytes) {
		t.Error("other bytes")
	}
	for g := range 8192 {
		n, _ := m.Tags(8*g, 8)
		if (n == 1) != slices.Contains(i.Tags, g) {
			t.Errorf("granule %d: %d", g, n)
		}
	}
	for name, c := range map[string]struct {
		i    api.Image
		want api.Errno
	}{
		"empty":       {api.Image{}, api.ErrForm},
		"bytes alone": {api.Image{Bytes: make([]byte, 65280)}, api.OK},
		"too many":    {api.Image{Bytes: make([]byte, 65281)}, api.ErrForm},
		"too few":     {api.Image{Bytes: make([]byte, 65279)}, api.ErrForm},
		"tags":        {api.Image{Bytes: make([]byte, 65280), Tags: []int{0, 1, 8159}}, api.OK},
		"tag 8160":    {api.Image{Bytes: make([]byte, 65280), Tags: []int{8160}}, api.ErrForm},
		"tag -1":      {api.Image{Bytes: make([]byte, 65280), Tags: []int{-1}}, api.ErrForm},
		"twice":       {api.Image{Bytes: make([]byte, 65280), Tags: []int{3, 3}}, api.ErrForm},
		"falling":     {api.Image{Bytes: make([]byte, 65280), Tags: []int{3, 2}}, api.ErrForm},
	} {
		m, e := link.Load(c.i)
		if e != c.want || (m == nil) != (e != api.OK) {
			t.Errorf("%s: %d", name, e)
		}
	}
	var none *memory.Memory
	if m, _ := link.Load(api.Image{}); m != none {
		t.Error("a memory of nothing")
	}
}
