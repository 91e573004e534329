package link

import (
	"slices"

	"bulwark/api"
	"bulwark/place"
	"bulwark/reloc"
	"bulwark/syms"
)

// Kinds of fields of which more is to be known than reloc tells.
const (
	fieldNone  = 0
	fieldHigh  = 23
	fieldLeftI = 24
	fieldLeftS = 25
	fieldRelax = 51
	slotSize   = 8
)

// field is a relocation that is being done: of an object of a compartment, in a section that stands at base.
type field struct {
	l         *linker
	c, object int
	base      uint32
	api.Reloc
}

// at is where the field stands.
func (f field) at() uint32 { return f.base + f.At }

// fillFields does a compartment's relocations, in order.
func (l *linker) fillFields(c int) error {
	for o, x := range l.parts[c].Loaded {
		for _, r := range x.Object.Relocs {
			base, stands := place.Address(l.spots, c, o, r.Section, 0)
			if !stands {
				continue
			}
			f := field{l, c, o, base, r}
			if e := f.do(x.Object.Sections[r.Section].Size); e != api.OK {
				return fail(whatField, l.plan.Compartments[c].Name, e)
			}
		}
	}
	return nil
}

// do does the relocation, in a section of so many bytes.
func (f field) do(size uint32) api.Errno {
	nothing := f.Kind == fieldNone || f.Kind == fieldRelax
	if whole := size >= wordSize && f.At <= size-wordSize; !whole && !nothing {
		return api.ErrForm
	}
	s, e := f.names(f.Symbol)
	if e != api.OK || nothing {
		return e
	}
	v, e := f.value(s)
	if e != api.OK {
		return e
	}
	word, e := reloc.Field(f.Kind, f.word(), v)
	if e != api.OK {
		return e
	}
	write := writer(f.l.m, f.at())
	write(byte(word), byte(word>>8), byte(word>>16), byte(word>>24))
	return api.OK
}

// word is what stands in the field.
func (f field) word() uint32 {
	var word uint32
	for k := range uint32(wordSize) {
		b, _ := f.l.m.Load(f.at()+k, 1)
		word |= b << (8 * k)
	}
	return word
}

// value is what the field becomes, of the place s.
func (f field) value(s uint32) (int32, api.Errno) {
	if f.Kind == fieldLeftI || f.Kind == fieldLeftS {
		return f.left(s)
	}
	globals := f.l.region(api.RegData, f.c).At
	return reloc.Value(f.Kind, s, uint32(f.Add), f.at(), globals)
}

// left is what the field of the high part that stands at s leaves.
func (f field) left(s uint32) (int32, api.Errno) {
	relocs := f.l.parts[f.c].Loaded[f.object].Object.Relocs
	k := slices.IndexFunc(relocs, func(r api.Reloc) bool {
		return r.Section == f.Section && r.Kind == fieldHigh && f.base+r.At == s
	})
	if k < 0 {
		return 0, api.ErrForm
	}
	high := f
	high.Reloc = relocs[k]
	from, e := high.names(high.Symbol)
	if e != api.OK {
		return 0, e
	}
	whole := from + uint32(high.Add) - high.at()
	v, e := high.value(from)
	return int32(whole) - v, e
}

// names is the place that a symbol of the field's object names.
func (f field) names(symbol int) (uint32, api.Errno) {
	if symbol < 0 {
		return 0, api.OK
	}
	part := f.l.parts[f.c]
	t, _ := syms.Of(part.Bounds, part.Loaded, f.object, symbol)
	if t.Own >= 0 {
		return f.l.region(api.RegCode, f.c).At + slotSize*uint32(t.Own), api.OK
	}
	if t.Object < 0 {
		return 0, api.OK
	}
	s := part.Loaded[t.Object].Object.Symbols[t.Symbol]
	switch s.In {
	case api.InNone:
		return 0, api.OK
	case api.InAbs:
		return s.Value, api.OK
	case api.InCommon:
		return f.common(s.Name)
	}
	at, stands := place.Address(f.l.spots, f.c, t.Object, s.In, s.Value)
	if !stands {
		return 0, api.ErrOut
	}
	return at, api.OK
}

// common is the place of a common symbol.
func (f field) common(name string) (uint32, api.Errno) {
	k := slices.IndexFunc(f.l.spots, func(s api.Spot) bool { return s.Part == f.c && s.Object < 0 && s.Name == name })
	if k < 0 {
		return 0, api.ErrOut
	}
	return f.l.spots[k].At, api.OK
}
