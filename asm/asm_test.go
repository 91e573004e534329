package asm_test

import (
	"slices"
	"testing"

	"bulwark/api"
	"bulwark/asm"
	"bulwark/instr"
)

var (
	beq  = api.Instr{Op: api.Beq}
	addi = api.Instr{Op: api.Addi, Rd: 1, Imm: 5}
	cjal = api.Instr{Op: api.Cjal, Rd: 1}
)

func word(t *testing.T, i api.Instr) uint32 {
	t.Helper()
	w, e := instr.Put(i)
	if e != api.OK {
		t.Fatalf("%v: %d", i, e)
	}
	return w
}

// fill is n lines without names.
func fill(n int) []api.Line {
	l := make([]api.Line, n)
	for k := range l {
		l[k].I = addi
	}
	return l
}

func TestPut(t *testing.T) {
	l := []api.Line{{Label: "a", I: beq, To: "c"}, {I: cjal, To: "a"}, {Label: "b", I: addi}, {Label: "c", I: api.Instr{Op: api.Bgeu, Rs1: 1, Rs2: 2, Imm: 4000}, To: "b"}, {I: api.Instr{Op: api.Bne, Imm: -6}}, {I: cjal, To: "c"}}
	want := []uint32{word(t, api.Instr{Op: api.Beq, Imm: 12}), word(t, api.Instr{Op: api.Cjal, Rd: 1, Imm: -4}), word(t, addi), word(t, api.Instr{Op: api.Bgeu, Rs1: 1, Rs2: 2, Imm: -4}), word(t, api.Instr{Op: api.Bne, Imm: -6}), word(t, api.Instr{Op: api.Cjal, Rd: 1, Imm: -8})}
	before := slices.Clone(l)
	for _, base := range []uint32{0, 8, 3, 1<<32 - 4} {
		if w, e := asm.Put(base, l); !slices.Equal(w, want) || e != api.OK {
			t.Errorf("at %d: %x, %d", base, w, e)
		}
	}
	if !slices.Equal(l, before) {
		t.Error("the lines were changed")
	}
	if w, e := asm.Put(0, nil); len(w) != 0 || e != api.OK {
		t.Errorf("of none: %x, %d", w, e)
	}
	if w, e := asm.Put(0, []api.Line{{Label: "a", I: beq, To: "a"}}); !slices.Equal(w, []uint32{0x63}) || e != api.OK {
		t.Errorf("to itself: %x, %d", w, e)
	}
}

func TestPutRefuses(t *testing.T) {
	far := append([]api.Line{{I: beq, To: "z"}}, fill(1023)...)
	near := append(slices.Clone(far), api.Line{Label: "y", I: addi})
	near[0].To = "y"
	near = near[:1024]
	near[1023].Label = "y"
	for name, c := range map[string]struct {
		l    []api.Line
		want api.Errno
	}{
		"twice":              {[]api.Line{{Label: "a", I: addi}, {Label: "a", I: addi}}, api.ErrTwice},
		"twice, none, arg":   {[]api.Line{{I: api.Instr{}}, {I: beq, To: "x"}, {Label: "a", I: addi}, {Label: "a", I: addi}}, api.ErrTwice},
		"none":               {[]api.Line{{Label: "a", I: beq, To: "b"}}, api.ErrNone},
		"none, arg":          {[]api.Line{{I: api.Instr{}}, {I: beq, To: "x"}}, api.ErrNone},
		"none, no branch":    {[]api.Line{{I: addi, To: "x"}}, api.ErrNone},
		"no branch":          {[]api.Line{{Label: "a", I: addi, To: "a"}}, api.ErrArg},
		"cjalr":              {[]api.Line{{Label: "a", I: api.Instr{Op: api.Cjalr}, To: "a"}}, api.ErrArg},
		"auipcc":             {[]api.Line{{Label: "a", I: api.Instr{Op: api.Auipcc}, To: "a"}}, api.ErrArg},
		"no op":              {[]api.Line{{I: api.Instr{}}}, api.ErrArg},
		"no register":        {[]api.Line{{I: api.Instr{Op: api.Addi, Rd: 16}}}, api.ErrArg},
		"no imm":             {[]api.Line{{I: api.Instr{Op: api.Beq, Imm: 3}}}, api.ErrArg},
		"too far":            {append(slices.Clone(far), api.Line{Label: "z", I: addi}), api.ErrArg},
		"as far as it leads": {near, api.OK},
		"imm is replaced":    {[]api.Line{{Label: "a", I: api.Instr{Op: api.Beq, Imm: 3}, To: "a"}}, api.OK},
		"no names":           {[]api.Line{{I: addi}, {I: addi}}, api.OK},
	} {
		w, e := asm.Put(0, c.l)
		if e != c.want || e != api.OK && len(w) != 0 || e == api.OK && len(w) != len(c.l) {
			t.Errorf("%s: %x, %d", name, w, e)
		}
	}
}

func TestPlace(t *testing.T) {
	l := []api.Line{{Label: "a", I: addi}, {Label: "b", I: addi}, {I: addi}, {Label: "c"}}
	for _, c := range []struct {
		base  uint32
		label string
		want  uint32
		e     api.Errno
	}{{8, "b", 12, api.OK}, {0, "a", 0, api.OK}, {100, "c", 112, api.OK}, {1<<32 - 4, "b", 0, api.OK}, {0, "d", 0, api.ErrNone}, {0, "", 0, api.ErrNone}} {
		if at, e := asm.Place(c.base, l, c.label); at != c.want || e != c.e {
			t.Errorf("Place(%d, %q) = %d, %d", c.base, c.label, at, e)
		}
	}
	if at, e := asm.Place(4, append(l, api.Line{Label: "c"}), "a"); at != 0 || e != api.ErrTwice {
		t.Errorf("twice: %d, %d", at, e)
	}
	if _, e := asm.Place(4, nil, "a"); e != api.ErrNone {
		t.Errorf("of none: %d", e)
	}
}

func TestGet(t *testing.T) {
	words := []uint32{word(t, addi), word(t, api.Instr{Op: api.Beq, Imm: -4}), 0x73, 0x30200073}
	want := []api.Line{{I: addi}, {I: api.Instr{Op: api.Beq, Imm: -4}}, {I: api.Instr{Op: api.Ecall}}, {I: api.Instr{Op: api.Mret}}}
	if l, e := asm.Get(4, words); !slices.Equal(l, want) || e != api.OK {
		t.Errorf("%v, %d", l, e)
	}
	if l, e := asm.Get(0, append(words, 0)); len(l) != 0 || e != api.ErrArg {
		t.Errorf("%v, %d", l, e)
	}
	if l, e := asm.Get(0, nil); len(l) != 0 || e != api.OK {
		t.Errorf("%v, %d", l, e)
	}
}

func TestWordsComeBack(t *testing.T) {
	var words []uint32
	for o := api.Lui; o <= api.Mret; o++ {
		for _, imm := range []int32{0, 28} {
			if w, e := instr.Put(api.Instr{Op: o, Imm: imm}); e == api.OK {
				words = append(words, w)
			}
		}
	}
	for _, base := range []uint32{0, 64, 1<<32 - 8} {
		l, e := asm.Get(base, words)
		if e != api.OK {
			t.Fatal(e)
		}
		if again, e := asm.Put(base+12, l); !slices.Equal(again, words) || e != api.OK {
			t.Errorf("%x, %d", again, e)
		}
	}
}
