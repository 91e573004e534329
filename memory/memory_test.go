package memory_test

import (
	"bytes"
	"math"
	"testing"

	"bulwark/api"
	"bulwark/capa"
	"bulwark/memory"
)

func root(t *testing.T) api.Cap {
	t.Helper()
	c, e := capa.Root(4096, 8192, 39)
	if e != api.OK {
		t.Fatal(e)
	}
	return c
}

func tags(t *testing.T, m *memory.Memory, at, n int) int {
	t.Helper()
	k, e := m.Tags(at, n)
	if e != api.OK {
		t.Fatalf("Tags(%d, %d): %d", at, n, e)
	}
	return k
}

func TestLoadAndStoreRefuse(t *testing.T) {
	m := memory.New()
	for _, c := range []struct {
		at   uint32
		size int
		want api.Errno
	}{
		{0, 1, api.OK}, {1, 1, api.OK}, {2, 2, api.OK}, {4, 4, api.OK}, {65532, 4, api.OK}, {65534, 2, api.OK}, {65535, 1, api.OK},
		{2, 4, api.ErrArg}, {1, 2, api.ErrArg}, {0, 8, api.ErrArg}, {0, 3, api.ErrArg}, {0, 0, api.ErrArg}, {0, -1, api.ErrArg},
		{65536, 1, api.ErrArg}, {65536, 4, api.ErrArg}, {65535, 2, api.ErrArg}, {math.MaxUint32, 1, api.ErrArg}, {math.MaxUint32 - 3, 4, api.ErrArg},
		{0, math.MaxInt, api.ErrArg}, {0, math.MinInt, api.ErrArg}, {0, 1 << 32, api.ErrArg},
	} {
		if e := m.Store(c.at, c.size, 1); e != c.want {
			t.Errorf("Store(%d, %d): %d", c.at, c.size, e)
		}
		n, e := m.Load(c.at, c.size)
		if e != c.want || e == api.OK && n != 1 || e != api.OK && n != 0 {
			t.Errorf("Load(%d, %d) = %d, %d", c.at, c.size, n, e)
		}
	}
}

func TestNumbers(t *testing.T) {
	m := memory.New()
	m.Store(8, 4, 0x04030201)
	for _, c := range []struct {
		at   uint32
		size int
		want uint32
	}{{8, 1, 1}, {9, 1, 2}, {11, 1, 4}, {8, 2, 0x201}, {10, 2, 0x403}, {8, 4, 0x04030201}, {12, 4, 0}, {4, 4, 0}} {
		if n, e := m.Load(c.at, c.size); n != c.want || e != api.OK {
			t.Errorf("Load(%d, %d) = %x, %d", c.at, c.size, n, e)
		}
	}
	m.Store(9, 1, 0xabcdef)
	if n, _ := m.Load(8, 4); n != 0x0403ef01 {
		t.Errorf("the lowest byte: %x", n)
	}
	m.Store(10, 2, 0x1234ffff)
	if n, _ := m.Load(8, 4); n != 0xffffef01 {
		t.Errorf("the two lowest bytes: %x", n)
	}
}

func TestCapabilities(t *testing.T) {
	m, r := memory.New(), root(t)
	if m.StoreCap(8, r) != api.OK || tags(t, m, 0, 16) != 1 || m.Store(12, 1, 7) != api.OK || tags(t, m, 0, 16) != 0 {
		t.Error("the chapter's example")
	}
	for _, c := range []api.Cap{r, capa.Int(7), capa.Seal(r, 4), capa.ClearTag(r), capa.Null(), {Tag: true}} {
		for _, at := range []uint32{0, 8, 65528} {
			if e := m.StoreCap(at, c); e != api.OK {
				t.Fatal(e)
			}
			if got, e := m.LoadCap(at); got != c || e != api.OK {
				t.Errorf("%v at %d came back as %v, %d", c, at, got, e)
			}
			b, _ := m.Bytes(int(at), 8)
			if want := capa.Bytes(c); !bytes.Equal(b, want[:]) {
				t.Errorf("bytes of %v: %x", c, b)
			}
		}
	}
	for _, at := range []uint32{4, 1, 7, 65529, 65536, math.MaxUint32, math.MaxUint32 - 7} {
		c, e := m.LoadCap(at)
		if c != capa.Null() || e != api.ErrArg || m.StoreCap(at, r) != api.ErrArg {
			t.Errorf("at %d: %v, %d", at, c, e)
		}
	}
}

func TestNumberTakesTag(t *testing.T) {
	for at := uint32(0); at < 24; at++ {
		for _, size := range []int{1, 2, 4} {
			m, r := memory.New(), root(t)
			for g := range uint32(3) {
				m.StoreCap(8*g, r)
			}
			before, _ := m.Bytes(0, 64)
			if m.Store(at, size, 0xffffffff) != api.OK {
				continue
			}
			for g := range uint32(3) {
				c, _ := m.LoadCap(8 * g)
				if c.Tag != (at/8 != g) {
					t.Errorf("a number of %d at %d: granule %d has %v", size, at, g, c.Tag)
				}
			}
			after, _ := m.Bytes(0, 64)
			for i := range after {
				in := i >= int(at) && i < int(at)+size
				if in && after[i] != 255 || !in && after[i] != before[i] {
					t.Errorf("a number of %d at %d: byte %d", size, at, i)
				}
			}
		}
	}
}

func TestRefusedChangesNothing(t *testing.T) {
	m, r := memory.New(), root(t)
	m.StoreCap(0, r)
	m.Store(2, 4, 9)
	m.Store(0, 3, 9)
	m.StoreCap(4, capa.Null())
	if c, _ := m.LoadCap(0); c != r {
		t.Errorf("%v", c)
	}
}

func TestBytesAndTags(t *testing.T) {
	m, r := memory.New(), root(t)
	m.StoreCap(8, r)
	m.StoreCap(16, r)
	m.StoreCap(65528, r)
	for _, c := range []struct {
		at, n int
		e     api.Errno
		tags  int
	}{
		{0, 0, api.OK, 0}, {65536, 0, api.OK, 0}, {0, 65536, api.OK, 3}, {0, 8, api.OK, 0}, {0, 9, api.OK, 1}, {15, 1, api.OK, 1}, {15, 2, api.OK, 2}, {8, 0, api.OK, 0},
		{24, 65504, api.OK, 0}, {24, 65505, api.OK, 1}, {65535, 1, api.OK, 1},
		{0, 65537, api.ErrArg, 0}, {65536, 1, api.ErrArg, 0}, {65537, 0, api.ErrArg, 0}, {-1, 1, api.ErrArg, 0}, {0, -1, api.ErrArg, 0},
		{1, math.MaxInt, api.ErrArg, 0}, {math.MaxInt, 1, api.ErrArg, 0}, {math.MinInt, math.MinInt, api.ErrArg, 0},
	} {
		b, e := m.Bytes(c.at, c.n)
		if e != c.e || e == api.OK && len(b) != c.n || e != api.OK && len(b) != 0 {
			t.Errorf("Bytes(%d, %d): %d bytes, %d", c.at, c.n, len(b), e)
		}
		if k, e := m.Tags(c.at, c.n); k != c.tags || e != c.e {
			t.Errorf("Tags(%d, %d) = %d, %d", c.at, c.n, k, e)
		}
	}
}

func TestMemoryIsItsOwn(t *testing.T) {
	m, r := memory.New(), root(t)
	m.StoreCap(8, r)
	b, _ := m.Bytes(0, 16)
	b[8] = 99
	other := m.Copy()
	if c, _ := other.LoadCap(8); c != r {
		t.Error("a copy is the same")
	}
	other.Store(8, 4, 1)
	m.Store(0, 4, 5)
	if c, _ := m.LoadCap(8); c != r {
		t.Error("a copy, or what was answered, is the memory's own")
	}
	if n, _ := other.Load(0, 4); n != 0 {
		t.Error("what comes behind a copy")
	}
	if n, _ := memory.New().Load(0, 4); n != 0 || tags(t, memory.New(), 0, 65536) != 0 {
		t.Error("a new memory is 0")
	}
}

func TestNoMemory(t *testing.T) {
	for _, m := range []*memory.Memory{nil, {}} {
		_, e1 := m.Load(3, 9)
		e2 := m.Store(3, 9, 0)
		c, e3 := m.LoadCap(3)
		e4 := m.StoreCap(3, root(t))
		b, e5 := m.Bytes(-1, -1)
		k, e6 := m.Tags(0, 8)
		for i, e := range []api.Errno{e1, e2, e3, e4, e5, e6} {
			if e != api.ErrNil {
				t.Errorf("%d: %d", i, e)
			}
		}
		if m.Copy() != nil || c != capa.Null() || b != nil || k != 0 {
			t.Error("something of nothing")
		}
	}
}
