package alu_test

import (
	"math/big"
	"testing"

	"bulwark/alu"
	"bulwark/api"
)

const minus = 1<<32 - 1

func words() []uint32 {
	l := []uint32{0, 1, 2, 3, 5, 7, 31, 32, 33, 100, 4096, 0x12345678, 0x87654321, minus, minus - 1, minus - 6, minus - 30, 1 << 31, 1<<31 - 1, 1<<31 + 1, 1<<16 - 1, 1 << 16}
	return l
}

// low is the 32 bits of a number from bit shift on.
func low(n *big.Int, shift uint) uint32 {
	m := new(big.Int).Rsh(n, shift)
	return uint32(m.And(m, big.NewInt(minus)).Uint64())
}

func worth(n uint32) *big.Int { return big.NewInt(int64(int32(n))) }
func word(n uint32) *big.Int  { return big.NewInt(int64(n)) }

func flag(is bool) uint32 {
	if is {
		return 1
	}
	return 0
}

func shifted(n *big.Int, by uint32) uint32 { return low(n, uint(by%32)) }

// want is what an operator makes, by numbers without a bound.
func want(o api.Op, a, b uint32) uint32 {
	z := new(big.Int)
	switch o {
	case api.Add, api.Addi:
		return low(z.Add(word(a), word(b)), 0)
	case api.Sub:
		return low(z.Sub(word(a), word(b)), 0)
	case api.Mul:
		return low(z.Mul(word(a), word(b)), 0)
	case api.And, api.Andi:
		return low(z.And(word(a), word(b)), 0)
	case api.Or, api.Ori:
		return low(z.Or(word(a), word(b)), 0)
	case api.Xor, api.Xori:
		return low(z.Xor(word(a), word(b)), 0)
	case api.Slt, api.Slti:
		return flag(worth(a).Cmp(worth(b)) < 0)
	case api.Sltu, api.Sltiu:
		return flag(word(a).Cmp(word(b)) < 0)
	case api.Sll, api.Slli:
		return low(z.Lsh(word(a), uint(b%32)), 0)
	case api.Srl, api.Srli:
		return shifted(word(a), b)
	case api.Sra, api.Srai:
		return shifted(worth(a), b)
	case api.Mulh:
		return low(z.Mul(worth(a), worth(b)), 32)
	case api.Mulhsu:
		return low(z.Mul(worth(a), word(b)), 32)
	case api.Mulhu:
		return low(z.Mul(word(a), word(b)), 32)
	}
	if b == 0 {
		if o == api.Div || o == api.Divu {
			return minus
		}
		return a
	}
	switch o {
	case api.Div:
		return low(z.Quo(worth(a), worth(b)), 0)
	case api.Rem:
		return low(z.Rem(worth(a), worth(b)), 0)
	case api.Divu:
		return low(z.Quo(word(a), word(b)), 0)
	}
	return low(z.Rem(word(a), word(b)), 0)
}

func TestDo(t *testing.T) {
	for o := range 256 {
		op := api.Op(o)
		is := op >= api.Addi && op <= api.Remu
		for _, a := range words() {
			for _, b := range words() {
				n, e := alu.Do(op, a, b)
				if !is && (n != 0 || e != api.ErrArg) {
					t.Fatalf("Do(%d, %x, %x) = %x, %d", o, a, b, n, e)
				}
				if is && (n != want(op, a, b) || e != api.OK) {
					t.Fatalf("Do(%d, %x, %x) = %x, %d, not %x", o, a, b, n, e, want(op, a, b))
				}
			}
		}
	}
}

func TestExamples(t *testing.T) {
	for _, c := range []struct {
		o          api.Op
		a, b, want uint32
		e          api.Errno
	}{
		{api.Div, 1 << 31, minus, 1 << 31, api.OK}, {api.Rem, 1 << 31, minus, 0, api.OK}, {api.Rem, 7, 0, 7, api.OK}, {api.Div, 7, 0, minus, api.OK},
		{api.Divu, 7, 0, minus, api.OK}, {api.Remu, 7, 0, 7, api.OK}, {api.Mulhsu, minus, 2, minus, api.OK}, {api.Sra, 1 << 31, 31, minus, api.OK},
		{api.Srai, 1 << 31, 33, 3 << 30, api.OK}, {api.Div, minus - 6, 2, minus - 2, api.OK}, {api.Rem, minus - 6, 2, minus, api.OK}, {api.Beq, 1, 1, 0, api.ErrArg},
	} {
		if n, e := alu.Do(c.o, c.a, c.b); n != c.want || e != c.e {
			t.Errorf("Do(%d, %x, %x) = %x, %d", c.o, c.a, c.b, n, e)
		}
	}
}

func TestIs(t *testing.T) {
	for o := range 256 {
		op := api.Op(o)
		for _, a := range words() {
			for _, b := range words() {
				s, u := worth(a).Cmp(worth(b)), word(a).Cmp(word(b))
				yes, known := false, true
				switch op {
				case api.Beq:
					yes = u == 0
				case api.Bne:
					yes = u != 0
				case api.Blt:
					yes = s < 0
				case api.Bge:
					yes = s >= 0
				case api.Bltu:
					yes = u < 0
				case api.Bgeu:
					yes = u >= 0
				default:
					known = false
				}
				is, e := alu.Is(op, a, b)
				if is != yes || (e == api.OK) != known || !known && e != api.ErrArg {
					t.Fatalf("Is(%d, %x, %x) = %v, %d", o, a, b, is, e)
				}
			}
		}
	}
}

func do(o api.Op, a, b uint32) uint32 {
	n, _ := alu.Do(o, a, b)
	return n
}

func is(o api.Op, a, b uint32) bool {
	yes, _ := alu.Is(o, a, b)
	return yes
}

func TestWhatFollows(t *testing.T) {
	for _, a := range words() {
		for _, b := range words() {
			if do(api.Add, do(api.Mul, do(api.Div, a, b), b), do(api.Rem, a, b)) != a || do(api.Add, do(api.Mul, do(api.Divu, a, b), b), do(api.Remu, a, b)) != a {
				t.Errorf("%x by %x", a, b)
			}
			if flag(is(api.Blt, a, b))+flag(is(api.Beq, a, b))+flag(is(api.Blt, b, a)) != 1 {
				t.Errorf("%x and %x: not just one", a, b)
			}
		}
	}
}
