package ends_test

import (
	"bytes"
	"math"
	"testing"

	"bulwark/api"
	"bulwark/ends"
)

func TestPut(t *testing.T) {
	for _, c := range []struct {
		n    uint64
		size int
		want string
		e    api.Errno
	}{
		{258, 2, "\x02\x01", api.OK},
		{256, 1, "", api.ErrArg},
		{255, 1, "\xff", api.OK},
		{0, 1, "\x00", api.OK},
		{65535, 2, "\xff\xff", api.OK},
		{65536, 2, "", api.ErrArg},
		{1<<32 - 1, 4, "\xff\xff\xff\xff", api.OK},
		{1 << 32, 4, "", api.ErrArg},
		{math.MaxUint64, 8, "\xff\xff\xff\xff\xff\xff\xff\xff", api.OK},
		{0x0102030405060708, 8, "\x08\x07\x06\x05\x04\x03\x02\x01", api.OK},
		{1, 3, "", api.ErrArg},
		{0, 0, "", api.ErrArg},
		{0, -1, "", api.ErrArg},
		{0, 16, "", api.ErrArg},
		{0, math.MinInt, "", api.ErrArg},
	} {
		b, e := ends.Put(c.n, c.size)
		if string(b) != c.want || e != c.e {
			t.Errorf("Put(%d, %d) = %x, %d", c.n, c.size, b, e)
		}
	}
}

func TestGet(t *testing.T) {
	for _, c := range []struct {
		b        string
		at, size int
		want     uint64
		e        api.Errno
	}{
		{"\x02\x01\x05", 0, 2, 258, api.OK},
		{"\x02\x01\x05", 1, 2, 0x501, api.OK},
		{"\x02\x01", 1, 2, 0, api.ErrShort},
		{"\x02\x01", 2, 1, 0, api.ErrShort},
		{"", 1, 1, 0, api.ErrArg},
		{"", 0, 1, 0, api.ErrShort},
		{"", 0, 3, 0, api.ErrArg},
		{"abc", -1, 1, 0, api.ErrArg},
		{"abc", 4, 1, 0, api.ErrArg},
		{"abc", math.MaxInt, 8, 0, api.ErrArg},
		{"\x01\x02\x03\x04\x05\x06\x07\x08", 0, 8, 0x0807060504030201, api.OK},
		{"\x01\x02\x03\x04\x05\x06\x07\x08", 4, 4, 0x08070605, api.OK},
	} {
		n, e := ends.Get([]byte(c.b), c.at, c.size)
		if n != c.want || e != c.e {
			t.Errorf("Get(%x, %d, %d) = %d, %d", c.b, c.at, c.size, n, e)
		}
	}
}

func TestPart(t *testing.T) {
	for _, c := range []struct {
		b     string
		at, n int
		want  string
		e     api.Errno
	}{
		{"\x01\x02\x03", 1, 2, "\x02\x03", api.OK},
		{"\x01", 0, 2, "", api.ErrShort},
		{"abc", 3, 0, "", api.OK},
		{"abc", 3, 1, "", api.ErrShort},
		{"abc", 4, 0, "", api.ErrArg},
		{"abc", -1, 0, "", api.ErrArg},
		{"abc", 0, -1, "", api.ErrArg},
		{"abc", 5, -1, "", api.ErrArg},
		{"abc", 1, math.MaxInt, "", api.ErrShort},
		{"", 0, 0, "", api.OK},
	} {
		b, e := ends.Part([]byte(c.b), c.at, c.n)
		if string(b) != c.want || e != c.e {
			t.Errorf("Part(%q, %d, %d) = %q, %d", c.b, c.at, c.n, b, e)
		}
	}
}

func TestZero(t *testing.T) {
	for _, c := range []struct {
		b     string
		at, n int
		want  bool
	}{
		{"\x00\x00\x01", 0, 2, true},
		{"\x00\x00\x01", 0, 3, false},
		{"\x01\x00\x00", 1, 2, true},
		{"\x00", 0, 2, false},
		{"\x00", 1, 0, true},
		{"\x00", 2, 0, false},
		{"\x00", 0, -1, false},
		{"\x00", -1, 1, false},
		{"", 0, 0, true},
		{"\x01", 0, 0, true},
	} {
		if got := ends.Zero([]byte(c.b), c.at, c.n); got != c.want {
			t.Errorf("Zero(%x, %d, %d) = %v", c.b, c.at, c.n, got)
		}
	}
}

func TestPad(t *testing.T) {
	for n := range 40 {
		b := bytes.Repeat([]byte{7}, n)
		p := ends.Pad(b)
		if len(p)%8 != 0 || len(p)-n < 0 || len(p)-n >= 8 || !bytes.HasPrefix(p, b) || !ends.Zero(p, n, len(p)-n) {
			t.Errorf("Pad of %d bytes: %x", n, p)
		}
	}
}

func TestPutIsGot(t *testing.T) {
	for _, size := range []int{1, 2, 4, 8} {
		rows := map[string]uint64{}
		for _, n := range []uint64{0, 1, 127, 128, 255, 256, 65535, 65536, 1<<32 - 1, 1 << 32, math.MaxUint64} {
			b, e := ends.Put(n, size)
			if e != api.OK {
				continue
			}
			if m, twice := rows[string(b)]; twice {
				t.Errorf("%d and %d have one row of bytes", n, m)
			}
			rows[string(b)] = n
			for at := range 5 {
				all := append(append(bytes.Repeat([]byte{9}, at), b...), 9, 9)
				if m, e := ends.Get(all, at, size); m != n || e != api.OK || len(b) != size {
					t.Errorf("Get of Put(%d, %d) at %d = %d, %d", n, size, at, m, e)
				}
			}
		}
	}
}

// What is answered is new memory, and what is handed in stays, with the room behind it.
func TestMemoryIsNew(t *testing.T) {
	room := []byte{1, 2, 3, 4, 5, 6, 7, 8}
	p, _ := ends.Part(room[:4], 1, 2)
	p[0] = 99
	_ = append(p, 77)
	q := ends.Pad(room[:3])
	q[0] = 99
	r := ends.Pad(room)
	r[7] = 99
	if !bytes.Equal(room, []byte{1, 2, 3, 4, 5, 6, 7, 8}) {
		t.Errorf("changed: %v", room)
	}
}
