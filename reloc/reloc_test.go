package reloc_test

import (
	"math"
	"testing"

	"bulwark/api"
	"bulwark/instr"
	"bulwark/reloc"
)

const minus = math.MaxUint32

var kinds = []uint8{0, 1, 16, 17, 23, 24, 25, 26, 27, 28, 51, 193, 194}

func TestIs(t *testing.T) {
	for k := range 256 {
		want := false
		for _, x := range kinds {
			want = want || int(x) == k
		}
		if reloc.Is(uint8(k)) != want {
			t.Errorf("Is(%d)", k)
		}
		_, e := reloc.Value(uint8(k), 0, 0, 0, 0)
		if valued := want && k != 24 && k != 25; valued != (e == api.OK) || !valued && e != api.ErrForm {
			t.Errorf("Value(%d): %d", k, e)
		}
		if w, e := reloc.Field(uint8(k), 0, 0); !want && (w != 0 || e != api.ErrForm) {
			t.Errorf("Field(%d) = %x, %d", k, w, e)
		}
	}
}

func TestValue(t *testing.T) {
	for _, c := range []struct {
		kind       uint8
		s, a, p, g uint32
		want       int32
		e          api.Errno
	}{
		{26, 2048, 0, 0, 0, 4096, 0}, {27, 2048, 0, 0, 0, -2048, 0}, {16, 8, 0, 0, 0, 8, 0}, {16, 8, 1, 0, 0, 0, api.ErrLimit}, {1, 5, 6, 7, 8, 11, 0}, {193, 4096, 0, 0, 4090, 6, 0},
		{0, 5, 6, 7, 8, 0, 0}, {51, 5, 6, 7, 8, 0, 0},
		{1, minus, 2, 0, 0, 1, 0}, {1, 1 << 31, 0, 0, 0, math.MinInt32, 0}, {1, 5, minus - 5, 0, 0, -1, 0},
		{16, 0, 4094, 0, 0, 4094, 0}, {16, 0, 4096, 0, 0, 0, api.ErrLimit}, {16, 0, 0, 4096, 0, -4096, 0}, {16, 0, 0, 4098, 0, 0, api.ErrLimit}, {16, 100, 4, 200, 0, -96, 0}, {16, 4, 0, minus - 3, 0, 8, 0},
		{17, 0, 1<<20 - 2, 0, 0, 1<<20 - 2, 0}, {17, 1 << 20, 0, 0, 0, 0, api.ErrLimit}, {17, 0, 0, 1 << 20, 0, -1 << 20, 0}, {17, 0, 0, 1<<20 + 2, 0, 0, api.ErrLimit}, {17, 3, 0, 0, 0, 0, api.ErrLimit},
		{23, 2047, 0, 0, 0, 0, 0}, {23, 2048, 0, 0, 0, 4096, 0}, {23, 0, 0, 2048, 0, 0, 0}, {23, 0, 0, 2049, 0, -4096, 0}, {23, 9000, 0, 100, 0, 8192, 0}, {23, math.MaxInt32, 0, 0, 0, math.MinInt32, 0},
		{26, 0, minus, 0, 0, 0, 0}, {26, 2047, 0, 99, 99, 0, 0}, {26, 6143, 0, 0, 0, 4096, 0}, {26, 6144, 0, 0, 0, 8192, 0}, {26, math.MaxInt32, 0, 0, 0, math.MinInt32, 0},
		{27, 2047, 0, 99, 99, 2047, 0}, {28, 2048, 0, 0, 0, -2048, 0}, {28, 4000, 96, 0, 0, 0, 0}, {28, minus, 0, 0, 0, -1, 0},
		{193, 4096, 2047, 0, 4096, 2047, 0}, {193, 4096, 2048, 0, 4096, 0, api.ErrLimit}, {194, 4096, 0, 0, 4096 + 2048, -2048, 0}, {194, 4096, 0, 0, 4096 + 2049, 0, api.ErrLimit}, {194, 5, 0, 0, 4, 1, 0},
		{24, 0, 0, 0, 0, 0, api.ErrForm}, {25, 0, 0, 0, 0, 0, api.ErrForm}, {2, 0, 0, 0, 0, 0, api.ErrForm}, {18, 0, 0, 0, 0, 0, api.ErrForm}, {195, 0, 0, 0, 0, 0, api.ErrForm}, {255, 0, 0, 0, 0, 0, api.ErrForm},
	} {
		if v, e := reloc.Value(c.kind, c.s, c.a, c.p, c.g); v != c.want || e != c.e {
			t.Errorf("Value(%d, %d, %d, %d, %d) = %d, %d", c.kind, c.s, c.a, c.p, c.g, v, e)
		}
	}
}

// form is the form of an instruction, and numbers that it may have and may not.
func form(o api.Op) (name string, good, bad []int32) {
	switch {
	case o == api.Lui || o == api.Auipcc:
		return "U", []int32{0, 4096, math.MinInt32}, []int32{1, 2048}
	case o == api.Cjal:
		return "J", []int32{0, -2, 1<<20 - 2, -1 << 20}, []int32{1, 1 << 20}
	case o >= api.Beq && o <= api.Bgeu:
		return "B", []int32{0, -2, 4094, -4096}, []int32{1, 4096}
	case o >= api.Sb && o <= api.Csc:
		return "S", []int32{0, -1, 2047, -2048}, []int32{2048, -2049}
	case o == api.Cjalr || o >= api.Lb && o <= api.Lhu || o >= api.Addi && o <= api.Andi || o == api.CIncAddrImm:
		return "I", []int32{0, -1, 2047, -2048}, []int32{2048, -2049}
	}
	return "", []int32{0}, nil
}

func TestField(t *testing.T) {
	asked := map[uint8]string{16: "B", 17: "J", 23: "U", 24: "I", 25: "S", 26: "U", 27: "I", 28: "S", 193: "I", 194: "S"}
	for o := api.Lui; o <= api.Mret; o++ {
		i := api.Instr{Op: o}
		name, good, bad := form(o)
		if o == api.CSpecialRw {
			i.Imm = 27
		}
		word, e := instr.Put(i)
		if e != api.OK {
			t.Fatal(o, e)
		}
		for kind, want := range asked {
			if want != name {
				if w, e := reloc.Field(kind, word, 0); w != 0 || e != api.ErrForm {
					t.Errorf("Field(%d) of %d: %x, %d", kind, o, w, e)
				}
				continue
			}
			for _, v := range good {
				i.Imm = v
				there, _ := instr.Put(i)
				if w, e := reloc.Field(kind, word, v); w != there || e != api.OK {
					t.Errorf("Field(%d) of %d, %d: %x, %d", kind, o, v, w, e)
				}
				if w, e := reloc.Field(kind, there, good[0]); w != word || e != api.OK {
					t.Errorf("Field(%d) of %d over %d: %x, %d", kind, o, v, w, e)
				}
			}
			for _, v := range bad {
				if w, e := reloc.Field(kind, word, v); w != 0 || e != api.ErrLimit {
					t.Errorf("Field(%d) of %d, %d: %x, %d", kind, o, v, w, e)
				}
			}
		}
	}
	for _, word := range []uint32{0, 0x13, minus, 0x12345678} {
		if w, e := reloc.Field(1, word, -2); w != minus-1 || e != api.OK {
			t.Errorf("a word: %x, %d", w, e)
		}
		for _, kind := range []uint8{0, 51} {
			if w, e := reloc.Field(kind, word, 7); w != word || e != api.OK {
				t.Errorf("%d: %x, %d", kind, w, e)
			}
		}
	}
	for kind := range asked {
		if w, e := reloc.Field(kind, 0, 0); w != 0 || e != api.ErrForm {
			t.Errorf("%d of no instruction: %x, %d", kind, w, e)
		}
	}
}

func TestFieldKeepsTheRest(t *testing.T) {
	word, _ := instr.Put(api.Instr{Op: api.Csc, Rs1: 3, Rs2: 9, Imm: 8})
	want, _ := instr.Put(api.Instr{Op: api.Csc, Rs1: 3, Rs2: 9, Imm: -40})
	if w, e := reloc.Field(28, word, -40); w != want || e != api.OK {
		t.Errorf("%x, %d", w, e)
	}
}

// What is left behind the high part is the whole, with it, and an Imm.
func TestWhole(t *testing.T) {
	for _, s := range []uint32{0, 1, 2047, 2048, 2049, 4095, 4096, 6143, 6144, 65536, 1<<31 - 1, 1<<31 - 2048, 1 << 31, minus, minus - 2047, minus - 2048} {
		for _, a := range []uint32{0, 7, minus - 100} {
			high, _ := reloc.Value(26, s, a, 0, 0)
			for _, kind := range []uint8{27, 28} {
				low, e := reloc.Value(kind, s, a, 0, 0)
				if e != api.OK || uint32(high)+uint32(low) != s+a || low < -2048 || low > 2047 || high%4096 != 0 {
					t.Errorf("%d, %d: %d and %d", s, a, high, low)
				}
			}
			from, e := reloc.Value(23, s, a, 300, 0)
			left := int32(s+a-300) - from
			if e != api.OK || left < -2048 || left > 2047 || from%4096 != 0 {
				t.Errorf("%d, %d: %d", s, a, from)
			}
		}
	}
}
