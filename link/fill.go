package link

import (
	"slices"

	"bulwark/api"
	"bulwark/gate"
	"bulwark/memory"
	"bulwark/outset"
	"bulwark/place"
	"bulwark/tables"
)

const (
	kindBytes   = 1
	flagWrite   = 1
	flagMemory  = 2
	entrySize   = 24
	wordOfEntry = 16
)

// region is the region of a kind and an owner. All are there, once places are said.
func (l *linker) region(kind uint8, owner int) api.Region {
	r, _ := tables.Region(l.regions, kind, owner)
	return r
}

// fillSwitch writes the switcher's words.
func (l *linker) fillSwitch() error {
	at := l.region(api.RegSwitch, nobody).At
	for k, word := range gate.Words() {
		l.m.Store(at+wordSize*uint32(k), wordSize, word)
	}
	return nil
}

// isCode tells whether a section stands in code, if it stands anywhere.
func isCode(s api.Section) bool {
	return s.Kind == kindBytes && s.Flags&flagMemory != 0 && s.Flags&flagWrite == 0
}

// entrance is the place of what a compartment exports as a name.
func (l *linker) entrance(c int, name string) (uint32, bool) {
	part := l.parts[c]
	k := slices.IndexFunc(part.Bounds, func(b api.Bound) bool { return b.Name == name })
	if k < 0 || part.Bounds[k].Target.Object < 0 {
		return 0, false
	}
	t := part.Bounds[k].Target
	o := part.Loaded[t.Object].Object
	s := o.Symbols[t.Symbol]
	if s.In < 0 || !isCode(o.Sections[s.In]) {
		return 0, false
	}
	at, stands := place.Address(l.spots, c, t.Object, s.In, s.Value)
	return at, stands && at%wordSize == 0
}

// fillExports writes a compartment's entries.
func (l *linker) fillExports(c int) error {
	base := l.region(api.RegExports, c).At
	for k, x := range l.plan.Compartments[c].Exports {
		at, stands := l.entrance(c, x.Name)
		if !stands {
			return fail(whatExport, x.Name, api.ErrNone)
		}
		fills, word, e := tables.Entry(l.regions, c, at, x.Args, x.Stack)
		if e != api.OK {
			return fail(whatExport, x.Name, api.ErrNone)
		}
		entry := base + entrySize*uint32(k)
		for _, f := range fills {
			l.m.StoreCap(entry+f.At, f.Cap)
		}
		l.m.Store(entry+wordOfEntry, wordSize, word)
	}
	return nil
}

// writer answers a closure that writes bytes behind one another, from a place on.
func writer(m *memory.Memory, at uint32) func(b ...byte) {
	return func(b ...byte) {
		for _, x := range b {
			m.Store(at, 1, uint32(x))
			at++
		}
	}
}

// fillSections writes a compartment's slots, and the bytes of its sections.
func (l *linker) fillSections(c int) error {
	base := l.region(api.RegCode, c).At
	slots, e := tables.Slots(l.plan, l.regions, c)
	if e != api.OK {
		return fail(whatRoom, "", e)
	}
	for k, slot := range slots {
		l.m.StoreCap(base+granule*uint32(k), slot)
	}
	for _, s := range l.spots {
		if s.Part == c && s.Object >= 0 {
			write := writer(l.m, s.At)
			write(l.parts[c].Loaded[s.Object].Object.Sections[s.Section].Bytes...)
		}
	}
	return nil
}

// image is what has come to be.
func (l *linker) image() (api.Image, error) {
	b, e := l.m.Bytes(0, imageSize)
	if e != api.OK {
		return api.Image{}, fail(whatRoom, "", e)
	}
	var tagged []int
	for g := range imageSize / granule {
		if n, _ := l.m.Tags(granule*g, granule); n > 0 {
			tagged = append(tagged, g)
		}
	}
	main, _ := l.entrance(l.plan.Start, l.plan.Main)
	start, e := outset.State(l.regions, l.plan.Start, main)
	if e != api.OK {
		return api.Image{}, fail(whatRoom, "", e)
	}
	return api.Image{Regions: l.regions, Bytes: b, Tags: tagged, Start: start, Plan: l.plan}, nil
}

// rise tells whether granules' numbers rise, and are an image's.
func rise(tags []int) bool {
	last := -1
	for _, g := range tags {
		if g <= last || g >= imageSize/granule {
			return false
		}
		last = g
	}
	return true
}

// Load answers a memory that has an image's bytes and tags.
func Load(i api.Image) (*memory.Memory, api.Errno) {
	if len(i.Bytes) != imageSize || !rise(i.Tags) {
		return nil, api.ErrForm
	}
	m := memory.New()
	write := writer(m, 0)
	write(i.Bytes...)
	for _, g := range i.Tags {
		c, _ := m.LoadCap(uint32(granule * g))
		c.Tag = true
		m.StoreCap(uint32(granule*g), c)
	}
	return m, api.OK
}
