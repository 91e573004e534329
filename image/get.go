package image

import (
	"bytes"

	"bulwark/api"
	"bulwark/capa"
	"bulwark/ends"
	"bulwark/plan"
)

// maxBytes is how many bytes are looked at.
const maxBytes = 200000

// cursor cuts parts off bytes. Where they end too soon it says so, and answers what is empty.
type cursor struct {
	b     []byte
	at    int
	short bool
}

// cut answers the next n bytes, which cannot grow into what stands behind them.
func (c *cursor) cut(n int) []byte {
	if c.short || n > len(c.b)-c.at {
		c.short = true
		return nil
	}
	from := c.at
	c.at += n
	return c.b[from:c.at:c.at]
}

// number answers the next number of a size.
func (c *cursor) number(size int) int {
	n, _ := ends.Get(c.cut(size), 0, size)
	return int(n)
}

// run is bytes at a place.
type run struct {
	at int
	b  []byte
}

func (c *cursor) regions() []api.Region {
	var l []api.Region
	for range c.number(1) {
		r := api.Region{Kind: uint8(c.number(1)), Owner: c.number(1), At: uint32(c.number(2)), N: uint32(c.number(4))}
		if r.Owner == nobodyByte {
			r.Owner = nobody
		}
		l = append(l, r)
	}
	return l
}

func (c *cursor) runs() []run {
	var l []run
	for range c.number(2) {
		at, n := c.number(2), c.number(2)
		l = append(l, run{at, c.cut(n)})
	}
	return l
}

func (c *cursor) tags() []int {
	var l []int
	for range c.number(2) {
		l = append(l, c.number(2))
	}
	return l
}

func (c *cursor) start() api.State {
	var s api.State
	for _, to := range caps(&s) {
		var b [granule]byte
		copy(b[:], c.cut(granule))
		*to = capa.Of(b, c.number(1) == 1)
	}
	s.On = c.number(1) == 1
	return s
}

// fill puts runs where they stand.
func fill(l []run) ([]byte, bool) {
	b := make([]byte, size)
	for _, r := range l {
		if r.at+len(r.b) > size {
			return nil, false
		}
		copy(b[r.at:], r.b)
	}
	return b, true
}

// Get answers the image of bytes. Whether they are what Put answers is asked of Put itself.
func Get(b []byte) (api.Image, api.Errno) {
	switch {
	case len(b) > maxBytes:
		return api.Image{}, api.ErrLimit
	case len(b) < len(magic):
		return api.Image{}, api.ErrShort
	case string(b[:len(magic)]) != magic:
		return api.Image{}, api.ErrForm
	}
	c := cursor{b: b, at: len(magic)}
	text := string(c.cut(c.number(2)))
	i := api.Image{Regions: c.regions()}
	l := c.runs()
	i.Tags, i.Start = c.tags(), c.start()
	if c.short {
		return api.Image{}, api.ErrShort
	}
	var fits bool
	var e api.Errno
	i.Bytes, fits = fill(l)
	i.Plan, _, e = plan.Read(text)
	if !fits || e != api.OK {
		return api.Image{}, api.ErrForm
	}
	if again, e := Put(i); e != api.OK || !bytes.Equal(again, b) {
		return api.Image{}, api.ErrForm
	}
	return i, api.OK
}
