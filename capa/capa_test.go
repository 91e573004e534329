package capa_test

import (
	"math"
	"testing"

	"bulwark/api"
	"bulwark/bounds"
	"bulwark/capa"
)

func root(t *testing.T, base, top uint64, perms uint8) api.Cap {
	t.Helper()
	c, e := capa.Root(base, top, perms)
	if e != api.OK {
		t.Fatalf("Root(%d, %d): %d", base, top, e)
	}
	return c
}

// some are capabilities of all kinds: with tags and without, open, sentries, sealed.
func some(t *testing.T) []api.Cap {
	var l []api.Cap
	for _, perms := range []uint8{0, 1, 8, 19, 23, 29, 39, 127} {
		for _, r := range []api.Cap{root(t, 4096, 8192, perms), root(t, 5, 9, perms), root(t, 0, 65536, perms), root(t, 65280, 65284, perms)} {
			for kind := range uint8(8) {
				for _, tag := range []bool{false, true} {
					c := r
					c.Type, c.Tag = kind, tag
					c.Addr += uint32(kind) * 300 % (uint32(bounds.Length(c.Bounds)) + 1)
					l = append(l, c)
				}
			}
		}
	}
	return l
}

func TestNullAndInt(t *testing.T) {
	if capa.Null() != (api.Cap{}) || capa.Int(258) != (api.Cap{Addr: 258}) || capa.Int(math.MaxUint32) != (api.Cap{Addr: math.MaxUint32}) {
		t.Error("Null, Int")
	}
}

func TestBytes(t *testing.T) {
	if capa.Bytes(capa.Int(258)) != [8]byte{2, 1} {
		t.Errorf("%x", capa.Bytes(capa.Int(258)))
	}
	for _, c := range []api.Cap{
		{Addr: 0x01020304, Perms: 39, Type: 4, Bounds: api.Bounds{E: 8, B: 256, T: 300}},
		{Tag: true, Addr: math.MaxUint32, Perms: 127, Type: 7, Bounds: api.Bounds{E: 15, B: 511, T: 511}},
		{Perms: 1}, {Type: 1}, {Bounds: api.Bounds{E: 1}}, {Bounds: api.Bounds{B: 1}}, {Bounds: api.Bounds{T: 1}},
		{Perms: 200, Type: 9, Bounds: api.Bounds{E: 17, B: 513, T: 515}},
	} {
		n := uint64(c.Perms%128) + 128*uint64(c.Type%8) + 1024*uint64(c.Bounds.E%16) + uint64(c.Bounds.B%512)<<14 + uint64(c.Bounds.T%512)<<23
		want := [8]byte{byte(c.Addr), byte(c.Addr >> 8), byte(c.Addr >> 16), byte(c.Addr >> 24), byte(n), byte(n >> 8), byte(n >> 16), byte(n >> 24)}
		if got := capa.Bytes(c); got != want {
			t.Errorf("Bytes(%v) = %x, not %x", c, got, want)
		}
	}
}

func TestOfBytes(t *testing.T) {
	for _, c := range some(t) {
		if got := capa.Of(capa.Bytes(c), c.Tag); got != c {
			t.Errorf("%v came back as %v", c, got)
		}
	}
	for _, b := range [][8]byte{{}, {1, 2, 3, 4, 5, 6, 7, 8}, {255, 255, 255, 255, 255, 255, 255, 255}, {0, 0, 0, 0, 0x80}} {
		for _, tag := range []bool{false, true} {
			if c := capa.Of(b, tag); capa.Bytes(c) != b || c.Tag != tag {
				t.Errorf("%x came back as %x", b, capa.Bytes(c))
			}
		}
	}
}

func TestBaseAndTop(t *testing.T) {
	r := root(t, 4096, 8192, 39)
	if capa.Base(r) != 4096 || capa.Top(r) != 8192 || r.Addr != 4096 || !r.Tag || r.Type != 0 || r.Perms != 39 {
		t.Errorf("%v", r)
	}
	for _, c := range some(t) {
		base := bounds.Base(c.Bounds, c.Addr)
		if capa.Base(c) != base || capa.Top(c) != base+bounds.Length(c.Bounds) {
			t.Errorf("%v: %d to %d", c, capa.Base(c), capa.Top(c))
		}
	}
}

func TestRootRefuses(t *testing.T) {
	for _, c := range []struct {
		base, top uint64
		want      api.Errno
	}{{4, 3, api.ErrArg}, {0, 65537, api.ErrArg}, {1, 513, api.ErrForm}, {65536, 65536, api.OK}} {
		r, e := capa.Root(c.base, c.top, 39)
		if e != c.want || e != api.OK && r != (api.Cap{}) {
			t.Errorf("Root(%d, %d) = %v, %d", c.base, c.top, r, e)
		}
	}
}

func TestSetAddr(t *testing.T) {
	r := root(t, 4096, 8192, 39)
	if !capa.SetAddr(r, 8192).Tag || capa.SetAddr(r, 0).Tag {
		t.Error("the chapter's examples")
	}
	for _, c := range some(t) {
		for _, a := range []uint32{0, c.Addr, c.Addr + 1, c.Addr - 1, 4096, 8192, 12288, 65536, 1 << 20, math.MaxUint32} {
			want := c
			want.Addr = a
			want.Tag = c.Tag && c.Type == 0 && bounds.Keeps(c.Bounds, c.Addr, a)
			if got := capa.SetAddr(c, a); got != want {
				t.Errorf("SetAddr(%v, %d) = %v", c, a, got)
			}
		}
	}
}

func TestSetBounds(t *testing.T) {
	r := root(t, 4096, 8192, 39)
	if capa.Top(capa.SetBounds(r, 64)) != 4160 || capa.SetBounds(r, 4097).Tag {
		t.Error("the chapter's examples")
	}
	for _, c := range some(t) {
		for _, n := range []uint32{0, 1, 4, 64, 511, 512, 513, 4095, 4096, 4097, 65536, 65537, math.MaxUint32} {
			exact, e := bounds.Exact(uint64(c.Addr), uint64(c.Addr)+uint64(n))
			want := c
			if c.Type == 0 && e == api.OK && bounds.Within(c.Bounds, c.Addr, uint64(c.Addr), uint64(n)) {
				want.Bounds = exact
			} else {
				want.Tag = false
			}
			if got := capa.SetBounds(c, n); got != want {
				t.Errorf("SetBounds(%v, %d) = %v, not %v", c, n, got, want)
			}
		}
	}
}

func TestAndPermsAndClearTag(t *testing.T) {
	for _, c := range some(t) {
		for _, mask := range []uint32{0, 1, 19, 127, 128, 256 + 1, math.MaxUint32} {
			want := c
			want.Perms = uint8(uint32(c.Perms) & mask)
			want.Tag = c.Tag && c.Type == 0
			if got := capa.AndPerms(c, mask); got != want {
				t.Errorf("AndPerms(%v, %d) = %v", c, mask, got)
			}
		}
		want := c
		want.Tag = false
		if got := capa.ClearTag(c); got != want {
			t.Errorf("ClearTag(%v) = %v", c, got)
		}
	}
}

func TestSealing(t *testing.T) {
	r := root(t, 4096, 8192, 39)
	s := capa.Seal(r, 4)
	if capa.Sentry(r).Tag || s.Type != 4 || !s.Tag || capa.SetAddr(s, 4096).Tag || capa.Unseal(s) != r {
		t.Error("the chapter's examples")
	}
	for _, c := range some(t) {
		want := c
		want.Type, want.Tag = 1, c.Tag && c.Type == 0 && c.Perms&8 != 0
		if got := capa.Sentry(c); got != want {
			t.Errorf("Sentry(%v) = %v", c, got)
		}
		want.Type, want.Tag = 0, c.Tag && c.Type != 0
		if got := capa.Unseal(c); got != want {
			t.Errorf("Unseal(%v) = %v", c, got)
		}
		for _, n := range []uint32{0, 1, 2, 3, 4, 5, 6, 7, 8, 9, 12, 256, math.MaxUint32} {
			want.Type = uint8(n % 8)
			want.Tag = c.Tag && c.Type == 0 && n%8 != 0
			if got := capa.Seal(c, n); got != want {
				t.Errorf("Seal(%v, %d) = %v", c, n, got)
			}
		}
	}
}

func TestSubset(t *testing.T) {
	r := root(t, 4096, 8192, 39)
	in := capa.SetBounds(capa.SetAddr(r, 4160), 64)
	other := root(t, 4096, 8192, 47)
	for i, c := range []struct {
		a, b api.Cap
		want bool
	}{
		{r, r, true}, {in, r, true}, {r, in, false}, {capa.ClearTag(in), r, false}, {in, capa.ClearTag(r), false},
		{capa.ClearTag(in), capa.ClearTag(r), true}, {other, r, false}, {r, other, true}, {capa.Seal(in, 4), r, true},
		{root(t, 4096, 8208, 39), r, false}, {root(t, 4080, 8192, 39), r, false}, {root(t, 8192, 8192, 1), r, true},
	} {
		if got := capa.Subset(c.a, c.b); got != c.want {
			t.Errorf("%d: %v", i, got)
		}
	}
}

func TestMay(t *testing.T) {
	r := root(t, 4096, 8192, 39)
	for i, c := range []struct {
		c     api.Cap
		perms uint8
		at, n uint64
		want  bool
	}{
		{r, 3, 8191, 1, true}, {r, 8, 4096, 1, false}, {r, 3, 8191, 2, false}, {r, 11, 4096, 1, false}, {r, 0, 4095, 1, false},
		{r, 39, 4096, 4096, true}, {capa.ClearTag(r), 1, 4096, 1, false}, {capa.Seal(r, 4), 1, 4096, 1, false},
		{r, 1, math.MaxUint64, 2, false}, {r, 1, 8192, 0, true}, {r, 1, 8193, 0, false},
	} {
		if got := capa.May(c.c, c.perms, c.at, c.n); got != c.want {
			t.Errorf("%d: %v", i, got)
		}
	}
}

// What is made of an open capability with a tag is less, and a tag never comes.
func TestNeverMore(t *testing.T) {
	for _, c := range some(t) {
		for _, n := range []uint32{0, 1, 4, 8, 64, 300, 4096, 5000, 70000, math.MaxUint32} {
			for i, d := range []api.Cap{capa.SetAddr(c, n), capa.SetBounds(c, n), capa.AndPerms(c, n), capa.Sentry(c), capa.Seal(c, n), capa.Unseal(c), capa.ClearTag(c)} {
				if d.Tag && !c.Tag {
					t.Fatalf("%d of %v, %d: a tag", i, c, n)
				}
				if d.Tag && c.Type == 0 && !capa.Subset(d, c) {
					t.Fatalf("%d of %v, %d: %v is more", i, c, n, d)
				}
			}
		}
	}
}
