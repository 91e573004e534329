package instr_test

import (
	"math"
	"math/rand"
	"testing"

	"bulwark/api"
	"bulwark/instr"
)

// want is how one instruction stands in words: its form, opcode, funct3, funct7 (rs2's bits of one source).
type want struct {
	o                api.Op
	name, form       string
	op, f3, f7, rs2b uint32
}

var all = []want{
	{api.Lui, "lui", "U", 0x37, 0, 0, 0}, {api.Auipcc, "auipcc", "U", 0x17, 0, 0, 0}, {api.Cjal, "cjal", "J", 0x6f, 0, 0, 0}, {api.Cjalr, "cjalr", "I", 0x67, 0, 0, 0},
	{api.Beq, "beq", "B", 0x63, 0, 0, 0}, {api.Bne, "bne", "B", 0x63, 1, 0, 0}, {api.Blt, "blt", "B", 0x63, 4, 0, 0}, {api.Bge, "bge", "B", 0x63, 5, 0, 0}, {api.Bltu, "bltu", "B", 0x63, 6, 0, 0}, {api.Bgeu, "bgeu", "B", 0x63, 7, 0, 0},
	{api.Lb, "lb", "I", 0x03, 0, 0, 0}, {api.Lh, "lh", "I", 0x03, 1, 0, 0}, {api.Lw, "lw", "I", 0x03, 2, 0, 0}, {api.Clc, "clc", "I", 0x03, 3, 0, 0}, {api.Lbu, "lbu", "I", 0x03, 4, 0, 0}, {api.Lhu, "lhu", "I", 0x03, 5, 0, 0},
	{api.Sb, "sb", "S", 0x23, 0, 0, 0}, {api.Sh, "sh", "S", 0x23, 1, 0, 0}, {api.Sw, "sw", "S", 0x23, 2, 0, 0}, {api.Csc, "csc", "S", 0x23, 3, 0, 0},
	{api.Addi, "addi", "I", 0x13, 0, 0, 0}, {api.Slti, "slti", "I", 0x13, 2, 0, 0}, {api.Sltiu, "sltiu", "I", 0x13, 3, 0, 0}, {api.Xori, "xori", "I", 0x13, 4, 0, 0}, {api.Ori, "ori", "I", 0x13, 6, 0, 0}, {api.Andi, "andi", "I", 0x13, 7, 0, 0},
	{api.Slli, "slli", "shift", 0x13, 1, 0, 0}, {api.Srli, "srli", "shift", 0x13, 5, 0, 0}, {api.Srai, "srai", "shift", 0x13, 5, 0x20, 0},
	{api.Add, "add", "R", 0x33, 0, 0, 0}, {api.Sub, "sub", "R", 0x33, 0, 0x20, 0}, {api.Sll, "sll", "R", 0x33, 1, 0, 0}, {api.Slt, "slt", "R", 0x33, 2, 0, 0}, {api.Sltu, "sltu", "R", 0x33, 3, 0, 0},
	{api.Xor, "xor", "R", 0x33, 4, 0, 0}, {api.Srl, "srl", "R", 0x33, 5, 0, 0}, {api.Sra, "sra", "R", 0x33, 5, 0x20, 0}, {api.Or, "or", "R", 0x33, 6, 0, 0}, {api.And, "and", "R", 0x33, 7, 0, 0},
	{api.Mul, "mul", "R", 0x33, 0, 1, 0}, {api.Mulh, "mulh", "R", 0x33, 1, 1, 0}, {api.Mulhsu, "mulhsu", "R", 0x33, 2, 1, 0}, {api.Mulhu, "mulhu", "R", 0x33, 3, 1, 0},
	{api.Div, "div", "R", 0x33, 4, 1, 0}, {api.Divu, "divu", "R", 0x33, 5, 1, 0}, {api.Rem, "rem", "R", 0x33, 6, 1, 0}, {api.Remu, "remu", "R", 0x33, 7, 1, 0},
	{api.CIncAddrImm, "c.incaddrimm", "I", 0x5b, 1, 0, 0}, {api.CSetBoundsImm, "c.setboundsimm", "I+", 0x5b, 2, 0, 0},
	{api.CSetBounds, "c.setbounds", "R", 0x5b, 0, 0x08, 0}, {api.CSeal, "c.seal", "R", 0x5b, 0, 0x0b, 0}, {api.CUnseal, "c.unseal", "one", 0x5b, 0, 0x0c, 0}, {api.CAndPerm, "c.andperm", "R", 0x5b, 0, 0x0d, 0},
	{api.CSetAddr, "c.setaddr", "R", 0x5b, 0, 0x10, 0}, {api.CIncAddr, "c.incaddr", "R", 0x5b, 0, 0x11, 0}, {api.CTestSubset, "c.testsubset", "R", 0x5b, 0, 0x20, 0},
	{api.CGetPerm, "c.getperm", "one", 0x5b, 0, 0x7f, 0}, {api.CGetType, "c.gettype", "one", 0x5b, 0, 0x7f, 1}, {api.CGetBase, "c.getbase", "one", 0x5b, 0, 0x7f, 2}, {api.CGetLen, "c.getlen", "one", 0x5b, 0, 0x7f, 3},
	{api.CGetTag, "c.gettag", "one", 0x5b, 0, 0x7f, 4}, {api.CMove, "c.move", "one", 0x5b, 0, 0x7f, 0x0a}, {api.CClearTag, "c.cleartag", "one", 0x5b, 0, 0x7f, 0x0b}, {api.CGetAddr, "c.getaddr", "one", 0x5b, 0, 0x7f, 0x0f},
	{api.CSentry, "c.sentry", "one", 0x5b, 0, 0x7f, 0x11}, {api.CSpecialRw, "c.specialrw", "special", 0x5b, 0, 1, 0},
	{api.Ecall, "ecall", "alone", 0, 0, 0, 0}, {api.Mret, "mret", "alone", 0, 0, 0, 0},
}

// imms are the numbers at the edges of a form, and those beyond them.
func imms(form string) (good, bad []int32) {
	switch form {
	case "U":
		return []int32{0, 4096, -4096, math.MinInt32, 0x7ffff000}, []int32{1, 2048, -1, math.MaxInt32}
	case "J":
		return []int32{0, 2, 8, -2, 1<<20 - 2, -1 << 20, 0x800, 0x1000, 0x7fe}, []int32{1, -1, 1 << 20, -1<<20 - 2, math.MinInt32}
	case "I", "S":
		return []int32{0, 1, -1, 2047, -2048, 31, 32}, []int32{2048, -2049, math.MaxInt32, math.MinInt32}
	case "I+":
		return []int32{0, 1, 2047, 2048, 4095}, []int32{-1, 4096, math.MinInt32}
	case "shift":
		return []int32{0, 1, 31}, []int32{32, -1, 4096}
	case "B":
		return []int32{0, 2, -2, -4, 4094, -4096, 2048, 30, 32}, []int32{1, 4096, -4098, 4095, math.MinInt32}
	case "special":
		return []int32{27, 28, 29, 30, 31}, []int32{0, 26, 32, -1}
	}
	return []int32{0}, []int32{1, -1, 27}
}

// word is the word as the table has it.
func word(w want, i api.Instr) uint32 {
	n := uint32(i.Imm)
	base := w.op | w.f3<<12 | uint32(i.Rd)<<7 | uint32(i.Rs1)<<15 | uint32(i.Rs2)<<20
	switch w.form {
	case "U":
		return w.op | uint32(i.Rd)<<7 | n
	case "J":
		return w.op | uint32(i.Rd)<<7 | n>>20&1<<31 | n>>1&1023<<21 | n>>11&1<<20 | n>>12&255<<12
	case "I", "I+":
		return base | n<<20
	case "shift":
		return base | n<<20 | w.f7<<25
	case "S":
		return base | n&31<<7 | n>>5&127<<25
	case "B":
		return base | n>>12&1<<31 | n>>5&63<<25 | n>>1&15<<8 | n>>11&1<<7
	case "one":
		return base | w.rs2b<<20 | w.f7<<25
	case "R":
		return base | w.f7<<25
	case "special":
		return base | n<<20 | w.f7<<25
	}
	if w.o == api.Mret {
		return 0x30200073
	}
	return 0x73
}

func has(form string) (rd, rs1, rs2 bool) {
	switch form {
	case "U", "J":
		return true, false, false
	case "I", "I+", "shift", "one", "special":
		return true, true, false
	case "S", "B":
		return false, true, true
	case "R":
		return true, true, true
	}
	return false, false, false
}

func registers(there bool) (good, bad []uint8) {
	if there {
		return []uint8{0, 1, 7, 15}, []uint8{16, 31, 255}
	}
	return []uint8{0}, []uint8{1, 15, 16}
}

func refused(t *testing.T, i api.Instr) {
	t.Helper()
	if w, e := instr.Put(i); w != 0 || e != api.ErrArg {
		t.Errorf("Put(%v) = %x, %d", i, w, e)
	}
}

func TestExamples(t *testing.T) {
	for _, c := range []struct {
		i    api.Instr
		want uint32
	}{
		{api.Instr{Op: api.Addi, Rd: 1, Imm: 5}, 0x00500093},
		{api.Instr{Op: api.Lui, Rd: 2, Imm: 4096}, 0x00001137},
		{api.Instr{Op: api.Beq, Rs1: 1, Rs2: 2, Imm: -4}, 0xfe208ee3},
		{api.Instr{Op: api.Cjal, Rd: 1, Imm: 8}, 0x008000ef},
	} {
		if w, e := instr.Put(c.i); w != c.want || e != api.OK {
			t.Errorf("Put(%v) = %08x, %d", c.i, w, e)
		}
	}
}

func TestPutAndGetOfAll(t *testing.T) {
	if len(all) != int(api.Mret) {
		t.Fatal("not all instructions stand in the table")
	}
	for k, w := range all {
		if w.o != api.Op(k+1) {
			t.Fatalf("%s: not in order", w.name)
		}
		rd, rs1, rs2 := has(w.form)
		goodD, badD := registers(rd)
		good1, bad1 := registers(rs1)
		good2, bad2 := registers(rs2)
		good, bad := imms(w.form)
		for _, imm := range good {
			for _, d := range goodD {
				for _, a := range good1 {
					for _, b := range good2 {
						i := api.Instr{Op: w.o, Rd: d, Rs1: a, Rs2: b, Imm: imm}
						got, e := instr.Put(i)
						if got != word(w, i) || e != api.OK {
							t.Fatalf("%s: Put(%v) = %08x, %d, not %08x", w.name, i, got, e, word(w, i))
						}
						if back, e := instr.Get(got); back != i || e != api.OK {
							t.Fatalf("%s: Get(%08x) = %v, %d, not %v", w.name, got, back, e, i)
						}
					}
				}
			}
			for _, r := range badD {
				refused(t, api.Instr{Op: w.o, Rd: r, Imm: imm})
			}
			for _, r := range bad1 {
				refused(t, api.Instr{Op: w.o, Rs1: r, Imm: imm})
			}
			for _, r := range bad2 {
				refused(t, api.Instr{Op: w.o, Rs2: r, Imm: imm})
			}
		}
		for _, imm := range bad {
			refused(t, api.Instr{Op: w.o, Imm: imm})
		}
	}
	for o := int(api.Mret) + 1; o < 256; o++ {
		refused(t, api.Instr{Op: api.Op(o)})
	}
	refused(t, api.Instr{})
}

func TestGetRefuses(t *testing.T) {
	for _, w := range []uint32{
		0, math.MaxUint32, 0x13 | 16<<7, 0x13 | 16<<15, 0x33 | 16<<20, 0x37 | 31<<7, 0x63 | 2<<12, 0x63 | 3<<12, 0x03 | 6<<12, 0x03 | 7<<12, 0x23 | 4<<12,
		0x67 | 1<<12, 0x1013 | 1<<25, 0x5013 | 1<<30 | 1<<25, 0x33 | 2<<25, 0x40001033, 0x5b | 3<<12, 0x5b, 0x1800005b | 1<<20, 0xfe50005b, 0x0200005b | 26<<20, 0x0200005b,
		0x73 | 1<<7, 0x73 | 1<<20, 0x30200073 | 1<<15, 0x0000000f, 0x37 - 1, 0xfff0005b,
	} {
		if i, e := instr.Get(w); i != (api.Instr{}) || e != api.ErrForm {
			t.Errorf("Get(%08x) = %v, %d", w, i, e)
		}
	}
}

// A word that is an instruction's is that one's alone, and no other word is its.
func TestWordsComeBack(t *testing.T) {
	r := rand.New(rand.NewSource(5))
	opcodes := []uint32{0x37, 0x17, 0x6f, 0x67, 0x63, 0x03, 0x23, 0x13, 0x33, 0x5b, 0x73}
	found := 0
	for range 300000 {
		w := r.Uint32()&^127 | opcodes[r.Intn(len(opcodes))]
		if r.Intn(2) == 0 {
			w &^= 1<<11 | 1<<19 | 1<<24
		}
		if r.Intn(2) == 0 {
			w = w&0x01ffffff | []uint32{0, 1, 8, 0x0b, 0x0c, 0x0d, 0x10, 0x11, 0x20, 0x7f}[r.Intn(10)]<<25
		}
		i, e := instr.Get(w)
		if e != api.OK {
			continue
		}
		found++
		if back, e := instr.Put(i); back != w || e != api.OK {
			t.Fatalf("%08x is %v, whose word is %08x, %d", w, i, back, e)
		}
	}
	if found < 1000 {
		t.Error("too few instructions", found)
	}
}

func TestNames(t *testing.T) {
	for _, w := range all {
		if s, ok := instr.Name(w.o); s != w.name || !ok {
			t.Errorf("Name(%d) = %s, %v", w.o, s, ok)
		}
		if o, ok := instr.Named(w.name); o != w.o || !ok {
			t.Errorf("Named(%s) = %d, %v", w.name, o, ok)
		}
	}
	for _, s := range []string{"", "noop", "Addi", "c.jal", "getperm", "cgetperm", "addi ", "c.clc", "lui auipcc"} {
		if o, ok := instr.Named(s); o != api.NoOp || ok {
			t.Errorf("Named(%q) = %d", s, o)
		}
	}
	for _, o := range []api.Op{api.NoOp, api.Mret + 1, 255} {
		if s, ok := instr.Name(o); s != "" || ok {
			t.Errorf("Name(%d) = %s", o, s)
		}
	}
}
