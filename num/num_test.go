package num_test

import (
	"math"
	"math/big"
	"math/rand"
	"strings"
	"testing"

	"bulwark/api"
	"bulwark/num"
)

var (
	inf  = math.Inf(1)
	nan  = math.NaN()
	zero = math.Copysign(0, -1)
)

func edges() []float64 {
	l := []float64{0, zero, inf, -inf, nan, 1, -1, 0.1, 0.5, 1e20, 1e21, 1e22, 1e23, 123456, 1e-6, 1e-7, 9.999e-7, 5e-324, math.MaxFloat64, -math.MaxFloat64, math.SmallestNonzeroFloat64 * 3,
		2.2250738585072014e-308, 2.225073858507201e-308, 9007199254740992, 9007199254740993, 4503599627370497.5, 1.0 / 3, 2.0 / 3, 123456789012345680000, 999999999999999900000, 5e-7, 12.5, 1e-5, 100, 4.35, 2.675, 1e15, 1e16, 1e17}
	for e := -1074; e < 1024; e += 7 {
		l = append(l, math.Ldexp(1, e), math.Ldexp(1.5, e), math.Nextafter(math.Ldexp(1, e), 0), math.Nextafter(math.Ldexp(1, e), inf))
	}
	return l
}

func TestReadTexts(t *testing.T) {
	for s, want := range map[string]float64{
		"0": 0, "-0": zero, "inf": inf, "-inf": -inf, "nan": nan, "1": 1, "-1": -1, "0.5": 0.5, "10": 10, "1e3": 1000, "1e-3": 0.001, "1.5e1": 15, "0e5": 0, "-0.0e-99": zero,
		"1e400": inf, "-1e400": -inf, "1e999": inf, "1e-999": 0, "-1e-999": zero, "1e007": 1e7, "0.10": 0.1, "1.7976931348623157e308": math.MaxFloat64,
		"1.7976931348623158e308": math.MaxFloat64, "1.797693134862315807e308": math.MaxFloat64, "1.797693134862315808e308": inf, "4.9e-324": 5e-324, "2.4e-324": 0, "2.5e-324": 5e-324,
		"9007199254740993": 9007199254740992, "9007199254740995": 9007199254740996, "9007199254740993.0000000000000000000001": 9007199254740994,
		"1234567890123456789012345678901234567890": 1234567890123456789012345678901234567890, "0." + strings.Repeat("0", 38) + "1": 1e-39,
	} {
		if f, e := num.Read(s); !num.Same(f, want) || e != api.OK {
			t.Errorf("Read(%q) = %v, %d", s, f, e)
		}
	}
	for _, s := range []string{
		"", "01", "-01", "00", "1.", ".5", "1.e5", "1e", "1e-", "1e+5", "1e1234", "1e-1234", "+1", "--1", "-", "e5", "1E5", "Inf", "+inf", "--inf", "NaN", "-nan", "infinity", "1_0", "0x1", "1 ", " 1", "1.5.5", "1e5.5", "1,5", "1f", "1e5e5",
		"12345678901234567890123456789012345678901", "0." + strings.Repeat("0", 40), "1." + strings.Repeat("5", 40), "1-", "\u0661",
	} {
		if f, e := num.Read(s); f != 0 || e != api.ErrForm {
			t.Errorf("Read(%q) = %v, %d", s, f, e)
		}
	}
}

// A text is read as the nearest number, of two as near the even one.
func TestReadIsNearest(t *testing.T) {
	r := rand.New(rand.NewSource(2))
	texts := []string{}
	for range 3000 {
		s := []byte{}
		for range 1 + r.Intn(39) {
			s = append(s, byte('0'+r.Intn(10)))
		}
		if s[0] == '0' {
			s[0] = '1'
		}
		text := string(s)
		if len(s) > 2 && r.Intn(2) == 0 {
			text = text[:2] + "." + text[2:]
		}
		if r.Intn(2) == 0 {
			text += "e" + []string{"5", "-9", "290", "-310", "-330", "100"}[r.Intn(6)]
		}
		texts = append(texts, text)
	}
	for _, s := range texts {
		exact, ok := new(big.Rat).SetString(s)
		if !ok {
			t.Fatal(s)
		}
		want, _ := exact.Float64()
		if f, e := num.Read(s); !num.Same(f, want) || e != api.OK {
			t.Errorf("Read(%s) = %v, %d, not %v", s, f, e, want)
		}
	}
}

func TestPutTexts(t *testing.T) {
	for s, f := range map[string]float64{
		"0": 0, "-0": zero, "inf": inf, "-inf": -inf, "nan": nan, "0.1": 0.1, "1e21": 1e21, "123456": 123456, "100000000000000000000": 1e20, "123456789012345680000": 123456789012345680000,
		"0.000001": 1e-6, "1e-7": 1e-7, "0.0000012": 1.2e-6, "9.5e-7": 9.5e-7, "1.5e21": 1.5e21, "-1.5": -1.5, "5e-324": 5e-324, "1.7976931348623157e308": math.MaxFloat64, "999999999999999900000": 999999999999999900000, "1e23": 1e23, "10": 10, "12.5": 12.5, "-1.25e-10": -1.25e-10,
	} {
		if got := num.Put(f); got != s {
			t.Errorf("Put(%v) = %s, not %s", f, got, s)
		}
	}
	if got := num.Put(math.Float64frombits(0xfff8000000000001)); got != "nan" {
		t.Errorf("another NaN: %s", got)
	}
}

// digits are those of a text, and the power of ten of the last one.
func digits(s string) (*big.Int, int) {
	s = strings.TrimPrefix(s, "-")
	mantissa, power, _ := strings.Cut(s, "e")
	n, _ := new(big.Int).SetString("0"+power, 10)
	if strings.HasPrefix(power, "-") {
		n, _ = new(big.Int).SetString(power, 10)
	}
	exponent := int(n.Int64())
	whole, part, _ := strings.Cut(mantissa, ".")
	ds := strings.TrimLeft(whole+part, "0")
	exponent -= len(part)
	for strings.HasSuffix(ds, "0") {
		ds = ds[:len(ds)-1]
		exponent++
	}
	d, _ := new(big.Int).SetString("0"+ds, 10)
	return d, exponent
}

func scaled(d *big.Int, exponent int) *big.Rat {
	p := new(big.Int).Exp(big.NewInt(10), big.NewInt(int64(max(exponent, -exponent))), nil)
	if exponent < 0 {
		return new(big.Rat).SetFrac(d, p)
	}
	return new(big.Rat).SetInt(p.Mul(p, d))
}

// shortest checks that no text of fewer digits is read as the number, and that of as few none is nearer, or as near with an even digit.
func shortest(t *testing.T, f float64) {
	t.Helper()
	s := num.Put(f)
	back, e := num.Read(s)
	if e != api.OK || !num.Same(back, f) {
		t.Fatalf("%s of %v is read as %v, %d", s, f, back, e)
	}
	f = math.Abs(f)
	exact := new(big.Rat).SetFloat64(f)
	d, exponent := digits(s)
	near := func(n *big.Int, at int) *big.Rat {
		x := new(big.Rat).Sub(scaled(n, at), exact)
		return x.Abs(x)
	}
	reads := func(n *big.Int, at int) bool {
		g, _ := scaled(n, at).Float64()
		return g == f
	}
	// The two numbers of fewer digits that are nearest, from below and above.
	for _, at := range []int{exponent + 1, exponent} {
		q := new(big.Rat).Quo(exact, scaled(big.NewInt(1), at))
		low := new(big.Int).Quo(q.Num(), q.Denom())
		for _, n := range []*big.Int{low, new(big.Int).Add(low, big.NewInt(1))} {
			if n.Sign() == 0 || !reads(n, at) {
				continue
			}
			if at > exponent {
				t.Fatalf("%s of %v: %v of fewer digits is read as it, too", s, f, n)
			}
			c := near(n, at).Cmp(near(d, exponent))
			if c < 0 || c == 0 && n.Cmp(d) != 0 && n.Bit(0) == 0 {
				t.Fatalf("%s of %v: %v is nearer", s, f, n)
			}
		}
	}
}

func TestPutIsShortest(t *testing.T) {
	r := rand.New(rand.NewSource(3))
	l := edges()
	for range 4000 {
		l = append(l, math.Float64frombits(r.Uint64()), float64(r.Int63()), float64(r.Int63n(1e17))*8, float64(r.Intn(1000))/1000)
	}
	for e := 50; e < 70; e++ {
		l = append(l, math.Ldexp(1, e), math.Ldexp(1, e)+math.Ldexp(1, e-50), math.Ldexp(5, e))
	}
	for e := -1074; e <= 1023; e++ {
		l = append(l, math.Ldexp(1, e))
	}
	for k := range uint64(2000) {
		l = append(l, math.Float64frombits(k+1))
	}
	for _, f := range l {
		if f != 0 && !math.IsNaN(f) && !math.IsInf(f, 0) {
			shortest(t, f)
		}
	}
}

func TestPutIsRead(t *testing.T) {
	for _, f := range edges() {
		if g, e := num.Read(num.Put(f)); !num.Same(f, g) || e != api.OK {
			t.Errorf("%v came back as %v, %d", f, g, e)
		}
	}
}

func TestSame(t *testing.T) {
	if !num.Same(nan, math.Float64frombits(0x7ff0000000000001)) || num.Same(0, zero) || num.Same(nan, inf) || num.Same(1, nan) || !num.Same(zero, zero) || !num.Same(inf, inf) || num.Same(inf, -inf) || num.Same(1, math.Nextafter(1, 2)) {
		t.Error("Same")
	}
}

func TestDo(t *testing.T) {
	for _, c := range []struct {
		o          api.NumOp
		a, b, want float64
	}{
		{api.NumAdd, 1, 2, 3}, {api.NumAdd, inf, -inf, nan}, {api.NumAdd, zero, zero, zero}, {api.NumAdd, 0, zero, 0}, {api.NumAdd, math.MaxFloat64, math.MaxFloat64, inf},
		{api.NumSub, 1, 2, -1}, {api.NumSub, inf, inf, nan}, {api.NumSub, 1, 1, 0}, {api.NumMul, 3, -2, -6}, {api.NumMul, 0, inf, nan}, {api.NumMul, zero, 5, zero}, {api.NumMul, 1e200, 1e200, inf},
		{api.NumDiv, 0, 0, nan}, {api.NumDiv, 1, 0, inf}, {api.NumDiv, 1, zero, -inf}, {api.NumDiv, 1, 4, 0.25}, {api.NumDiv, inf, inf, nan}, {api.NumDiv, -1, inf, zero},
		{api.NumMin, 0, zero, zero}, {api.NumMin, zero, 0, zero}, {api.NumMax, 0, zero, 0}, {api.NumMax, zero, 0, 0}, {api.NumMin, 1, 2, 1}, {api.NumMin, 2, 1, 1}, {api.NumMax, 1, 2, 2}, {api.NumMax, 2, 1, 2},
		{api.NumMin, nan, -inf, nan}, {api.NumMin, -inf, nan, nan}, {api.NumMax, inf, nan, nan}, {api.NumMax, nan, inf, nan}, {api.NumMin, inf, -inf, -inf}, {api.NumMax, inf, -inf, inf}, {api.NumMin, 3, 3, 3},
		{api.NumMin, zero, zero, zero}, {api.NumMax, zero, zero, zero}, {api.NumMin, 0, 0, 0}, {api.NumMax, -1, zero, zero},
	} {
		if f, e := num.Do(c.o, c.a, c.b); !num.Same(f, c.want) || e != api.OK {
			t.Errorf("Do(%d, %v, %v) = %v, %d", c.o, c.a, c.b, f, e)
		}
	}
	for _, o := range []api.NumOp{api.NoNumOp, api.NumMax + 1, 255} {
		if f, e := num.Do(o, 1, 2); f != 0 || e != api.ErrArg {
			t.Errorf("Do(%d) = %v, %d", o, f, e)
		}
	}
}

func TestIs(t *testing.T) {
	for _, c := range []struct {
		o    api.NumRel
		a, b float64
		want bool
	}{
		{api.RelLess, 1, 2, true}, {api.RelLess, 2, 1, false}, {api.RelLess, 1, 1, false}, {api.RelLess, zero, 0, false}, {api.RelLess, -inf, inf, true}, {api.RelLess, nan, 1, false}, {api.RelLess, 1, nan, false},
		{api.RelMost, 1, 1, true}, {api.RelMost, 1, 2, true}, {api.RelMost, 2, 1, false}, {api.RelMost, 0, zero, true}, {api.RelMost, nan, nan, false}, {api.RelMost, inf, inf, true},
		{api.RelSame, 1, 1, true}, {api.RelSame, 0, zero, true}, {api.RelSame, nan, nan, false}, {api.RelSame, 1, 2, false}, {api.RelSame, inf, -inf, false},
	} {
		if is, e := num.Is(c.o, c.a, c.b); is != c.want || e != api.OK {
			t.Errorf("Is(%d, %v, %v) = %v, %d", c.o, c.a, c.b, is, e)
		}
	}
	for _, o := range []api.NumRel{api.NoNumRel, api.RelSame + 1, 255} {
		if is, e := num.Is(o, 1, 1); is || e != api.ErrArg {
			t.Errorf("Is(%d) = %v, %d", o, is, e)
		}
	}
}

func TestWhatFollows(t *testing.T) {
	for _, a := range edges() {
		for _, b := range []float64{0, zero, inf, -inf, nan, 1, -1, 5e-324, 1e300, 0.1} {
			less, _ := num.Is(api.RelLess, a, b)
			most, _ := num.Is(api.RelMost, b, a)
			if wantNot := math.IsNaN(a) || math.IsNaN(b); less == most != wantNot {
				t.Errorf("%v, %v: less %v, most %v", a, b, less, most)
			}
			for _, o := range []api.NumOp{api.NumAdd, api.NumMul} {
				x, _ := num.Do(o, a, b)
				y, _ := num.Do(o, b, a)
				if !num.Same(x, y) {
					t.Errorf("%d of %v, %v: %v, %v", o, a, b, x, y)
				}
			}
		}
	}
}
