package elf

import (
	"bulwark/api"
	"bulwark/ends"
)

// writer puts bytes behind one another.
type writer struct{ b []byte }

// put writes numbers of a size.
func (w *writer) put(size int, l ...uint32) {
	for _, n := range l {
		b, _ := ends.Put(uint64(n), size)
		w.b = append(w.b, b...)
	}
}

// pad writes bytes 0 up to a multiple of 4.
func (w *writer) pad() {
	for len(w.b)%4 != 0 {
		w.b = append(w.b, 0)
	}
}

// part writes a section's bytes, and answers its row with the place where they stand.
func (w *writer) part(row entry, b []byte) entry {
	row.offset, row.size = uint32(len(w.b)), uint32(len(b))
	w.b = append(w.b, b...)
	w.pad()
	return row
}

// texts are texts behind one another, each with a byte 0 behind it.
type texts struct{ b []byte }

// add answers where a text stands.
func (t *texts) add(s string) uint32 {
	if s == "" {
		return 0
	}
	at := uint32(len(t.b))
	t.b = append(append(t.b, s...), 0)
	return at
}

func newTexts() *texts { return &texts{b: []byte{0}} }

// index is the number of a symbol's section in a file.
func index(in int) uint32 {
	switch in {
	case api.InNone:
		return indexNone
	case api.InAbs:
		return indexAbs
	case api.InCommon:
		return indexCommon
	}
	return uint32(in) + 1
}

// symbols are the bytes of the symbols, the first, empty one ahead of them.
func symbols(l []api.Symbol, names *texts) []byte {
	w := writer{b: make([]byte, symbolSize)}
	for _, s := range l {
		w.put(4, names.add(s.Name), s.Value, s.Size)
		other := uint32(0)
		if s.Hidden {
			other = otherHidden
		}
		w.put(1, uint32(s.Bind)<<4|uint32(s.Kind), other)
		w.put(2, index(s.In))
	}
	return w.b
}

// relocs are the bytes of the relocations of one section.
func relocs(l []api.Reloc, section int) []byte {
	var w writer
	for _, r := range l {
		if r.Section == section {
			w.put(4, r.At, uint32(r.Symbol+1)<<8|uint32(r.Kind), uint32(r.Add))
		}
	}
	return w.b
}

// header is the header of a file whose table stands at an offset and has so many rows.
func header(table, rows uint32) []byte {
	w := writer{b: []byte(ident)}
	w.put(2, typeObject, machine)
	w.put(4, version, 0, 0, table, 0)
	w.put(2, headerSize, 0, 0, entrySize, rows, rows-1)
	return w.b
}

func (w *writer) row(e entry) {
	w.put(4, e.name, e.kind, e.flags, e.address, e.offset, e.size, e.link, e.info, e.align, e.each)
}

// Put answers an object's bytes.
func Put(o api.Object) ([]byte, api.Errno) {
	if !May(o) {
		return nil, api.ErrArg
	}
	w := writer{b: make([]byte, headerSize)}
	names, symbolNames := newTexts(), newTexts()
	rows := []entry{{}}
	for _, s := range o.Sections {
		row := w.part(entry{name: names.add(s.Name), kind: s.Kind, flags: s.Flags, align: s.Align}, s.Bytes)
		row.size = s.Size
		rows = append(rows, row)
	}
	symbolsAt := uint32(len(rows))
	rows = append(rows, w.part(entry{kind: typeSymbols, link: symbolsAt + 1, info: uint32(locals(o.Symbols)) + 1, align: 4, each: symbolSize}, symbols(o.Symbols, symbolNames)))
	rows = append(rows, w.part(entry{kind: typeTexts, align: 1}, symbolNames.b))
	for k := range o.Sections {
		if b := relocs(o.Relocs, k); len(b) > 0 {
			rows = append(rows, w.part(entry{kind: typeRelocs, link: symbolsAt, info: uint32(k) + 1, align: 4, each: relocSize}, b))
		}
	}
	rows = append(rows, w.part(entry{kind: typeTexts, align: 1}, names.b))
	copy(w.b, header(uint32(len(w.b)), uint32(len(rows))))
	for _, row := range rows {
		w.row(row)
	}
	return w.b, api.OK
}
