package bounds_test

import (
	"math"
	"testing"

	"bulwark/api"
	"bulwark/bounds"
)

// wordsBase is the base as the words have it, in divisions alone.
func wordsBase(b api.Bounds, addr uint32) uint64 {
	e, bb := uint64(b.E%16), uint64(b.B%512)
	pow := uint64(1) << e
	middle := uint64(addr) / pow % 512
	high := uint64(addr) / (pow * 512)
	count := uint64(1) << (23 - e)
	if middle < bb {
		high = (high + count - 1) % count
	}
	return high*pow*512 + bb*pow
}

func wordsLength(b api.Bounds) uint64 {
	d := int(b.T%512) - int(b.B%512)
	if d < 0 {
		d += 512
	}
	return uint64(d) << (b.E % 16)
}

func someBounds() []api.Bounds {
	var l []api.Bounds
	for e := range 18 {
		for _, b := range []uint16{0, 1, 5, 255, 256, 510, 511, 512, 600, 65535} {
			for _, t := range []uint16{0, 1, 9, 255, 256, 511, 512, 1000, 65535} {
				l = append(l, api.Bounds{E: uint8(e), B: b, T: t})
			}
		}
	}
	return append(l, api.Bounds{E: 255, B: 3, T: 2})
}

func someAddresses() []uint32 {
	l := []uint32{0, 1, math.MaxUint32, math.MaxUint32 - 1}
	for i := range 32 {
		l = append(l, 1<<i, 1<<i-1, 3<<i, 5<<i+7)
	}
	return l
}

func TestBaseAndLength(t *testing.T) {
	for _, b := range someBounds() {
		if got, want := bounds.Length(b), wordsLength(b); got != want {
			t.Errorf("Length(%v) = %d, not %d", b, got, want)
		}
		for _, a := range someAddresses() {
			if got, want := bounds.Base(b, a), wordsBase(b, a); got != want {
				t.Errorf("Base(%v, %d) = %d, not %d", b, a, got, want)
			}
		}
	}
	b := api.Bounds{B: 5, T: 9}
	if bounds.Base(b, 517) != 517 || bounds.Base(b, 516) != 5 || bounds.Length(b) != 4 {
		t.Error("the chapter's example")
	}
}

func TestExact(t *testing.T) {
	for _, c := range []struct {
		base, top uint64
		want      api.Bounds
		e         api.Errno
	}{
		{0, 65536, api.Bounds{E: 8, T: 256}, api.OK},
		{8, 520, api.Bounds{E: 1, B: 4, T: 260}, api.OK},
		{1, 513, api.Bounds{}, api.ErrForm},
		{1, 512, api.Bounds{B: 1, T: 0}, api.OK},
		{8, 528, api.Bounds{E: 1, B: 4, T: 264}, api.OK},
		{4, 3, api.Bounds{}, api.ErrArg},
		{0, 65537, api.Bounds{}, api.ErrArg},
		{math.MaxUint64, math.MaxUint64, api.Bounds{}, api.ErrArg},
		{65537, 65536, api.Bounds{}, api.ErrArg},
		{65536, 65536, api.Bounds{}, api.OK},
		{7, 7, api.Bounds{B: 7, T: 7}, api.OK},
		{0, 65535, api.Bounds{}, api.ErrForm},
		{128, 65536, api.Bounds{E: 7, B: 1}, api.OK},
		{64, 65536, api.Bounds{}, api.ErrForm},
		{128, 65280, api.Bounds{E: 7, B: 1, T: 510}, api.OK},
	} {
		b, e := bounds.Exact(c.base, c.top)
		if b != c.want || e != c.e {
			t.Errorf("Exact(%d, %d) = %v, %d", c.base, c.top, b, e)
		}
	}
}

func TestExactIsTheLeast(t *testing.T) {
	for _, base := range []uint64{0, 1, 8, 24, 64, 256, 511, 512, 1000, 4096, 32768, 65024, 65280} {
		for n := uint64(0); base+n <= 65536; n += 1 + n/97 {
			b, e := bounds.Exact(base, base+n)
			least := -1
			for i := 8; i >= 0; i-- {
				p := uint64(1) << i
				if base%p == 0 && (base+n)%p == 0 && n <= 511*p {
					least = i
				}
			}
			if (least < 0) != (e == api.ErrForm) || e == api.OK && int(b.E) != least {
				t.Fatalf("Exact(%d, %d) = %v, %d; least %d", base, base+n, b, e, least)
			}
			if e != api.OK {
				continue
			}
			for _, a := range []uint64{base, base + n/3, base + n/2, base + n} {
				if bounds.Base(b, uint32(a)) != base || bounds.Length(b) != n {
					t.Fatalf("%v of %d, %d: %d, %d at %d", b, base, n, bounds.Base(b, uint32(a)), bounds.Length(b), a)
				}
			}
		}
	}
}

func TestWhatIsAlwaysExact(t *testing.T) {
	for base := uint64(0); base <= 65536; base += 8 {
		for _, n := range []uint64{0, 8, 504, 512, 520, 1024, 2040, 4080, 4088} {
			if base+n <= 65536 {
				if _, e := bounds.Exact(base, base+n); e != api.OK {
					t.Fatalf("Exact(%d, %d): %d", base, base+n, e)
				}
			}
		}
		for _, n := range []uint64{1, 3, 255, 256, 510, 511} {
			if base+3+n <= 65536 {
				if _, e := bounds.Exact(base+3, base+3+n); e != api.OK {
					t.Fatalf("Exact(%d, %d): %d", base+3, base+3+n, e)
				}
			}
		}
	}
}

func TestKeeps(t *testing.T) {
	for _, b := range someBounds() {
		for _, from := range someAddresses() {
			for _, to := range []uint32{0, from, from + 1, from - 1, from + 512, from + 1<<20} {
				if got, want := bounds.Keeps(b, from, to), wordsBase(b, from) == wordsBase(b, to); got != want {
					t.Fatalf("Keeps(%v, %d, %d) = %v", b, from, to, got)
				}
			}
		}
	}
}

func TestWithin(t *testing.T) {
	b := api.Bounds{B: 5, T: 9}
	for _, c := range []struct {
		addr  uint32
		at, n uint64
		want  bool
	}{
		{517, 518, 3, true}, {517, 518, 4, false}, {517, 517, 4, true}, {517, 516, 1, false}, {517, 516, 0, false},
		{517, 517, 0, true}, {517, 521, 0, true}, {517, 522, 0, false}, {517, 521, 1, false}, {517, 520, 1, true},
		{516, 5, 4, true}, {516, 517, 4, false},
		{517, math.MaxUint64, 2, false}, {517, 518, math.MaxUint64, false}, {517, 518, math.MaxUint64 - 516, false},
		{517, math.MaxUint64, math.MaxUint64, false}, {517, 1<<40 + 1, 0, false},
	} {
		if got := bounds.Within(b, c.addr, c.at, c.n); got != c.want {
			t.Errorf("Within(%d, %d, %d) = %v", c.addr, c.at, c.n, got)
		}
	}
}
