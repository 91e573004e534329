package elf

import (
	"bytes"
	"slices"
	"strings"

	"bulwark/api"
	"bulwark/ends"
)

// wrong is what a reader leaves by.
type wrong struct{ e api.Errno }

// must leaves, unless what the words ask for is so.
func must(is bool) {
	if !is {
		panic(wrong{api.ErrForm})
	}
}

// reader takes numbers off bytes, from a place on.
type reader struct {
	b  []byte
	at int
}

// part is the n bytes from at on, which cannot grow into what stands behind them.
func (r *reader) part(at, n uint64) []byte {
	if at+n > uint64(len(r.b)) {
		panic(wrong{api.ErrShort})
	}
	return r.b[at : at+n : at+n]
}

// take takes the next number of a size.
func (r *reader) take(size int) uint32 {
	n, e := ends.Get(r.b, r.at, size)
	if e != api.OK {
		panic(wrong{api.ErrShort})
	}
	r.at += size
	return uint32(n)
}

// file is a file that is being read: its table, the parts of its sections, and what is made of them.
type file struct {
	reader
	rows    []entry
	parts   [][]byte
	number  []int // of a section in the object, -1 of those that are not its own
	symbols int   // the section of symbols, 0: none
	renamed []int // of a symbol in the object, -1 of those that are not there
	count   int   // of relocations
	sizes   uint64
	object  api.Object
}

// Read answers the object of bytes.
func Read(b []byte) (o api.Object, e api.Errno) {
	defer func() {
		if r := recover(); r != nil {
			w, ours := r.(wrong)
			if !ours {
				panic(r)
			}
			o, e = api.Object{}, w.e
		}
	}()
	if len(b) > maxBytes {
		return api.Object{}, api.ErrLimit
	}
	f := file{reader: reader{b: b}}
	names := f.table()
	f.first()
	must(names < len(f.rows) && f.rows[names].kind == typeTexts)
	f.sections(names)
	f.allSymbols()
	f.allRelocs()
	f.limits()
	f.fill()
	return f.object, api.OK
}

// table reads the header's fields that tell where parts stand, and all parts, ahead of what is asked of them. It answers which section has the names.
func (f *file) table() int {
	f.part(0, headerSize)
	f.at = 32
	place := uint64(f.take(4))
	f.at = 48
	count := uint64(f.take(2))
	names := int(f.take(2))
	rows := reader{b: f.part(place, count*entrySize)}
	for range count {
		var e entry
		for _, p := range []*uint32{&e.name, &e.kind, &e.flags, &e.address, &e.offset, &e.size, &e.link, &e.info, &e.align, &e.each} {
			*p = rows.take(4)
		}
		var part []byte
		if e.kind != typeNone && e.kind != typeEmpty {
			part = f.part(uint64(e.offset), uint64(e.size))
		}
		f.rows, f.parts = append(f.rows, e), append(f.parts, part)
	}
	return names
}

// first checks what of the header is the same in all files, and the table's first section.
func (f *file) first() {
	must(strings.HasPrefix(string(f.part(0, headerSize)), ident))
	f.at = len(ident)
	must(f.take(2) == typeObject && f.take(2) == machine && f.take(4) == version)
	must(f.take(4) == 0 && f.take(4) == 0)
	f.take(4)
	must(f.take(4) == 0 && f.take(2) == headerSize && f.take(2) == 0 && f.take(2) == 0 && f.take(2) == entrySize)
	must(len(f.rows) > 0 && f.rows[0].kind == typeNone)
}

// text is the text at at of a section of texts.
func (f *file) text(section int, at uint32) string {
	part := f.parts[section]
	must(uint64(at) < uint64(len(part)))
	n := bytes.IndexByte(part[at:], 0)
	must(n >= 0 && n <= maxName)
	s := string(part[at : int(at)+n : int(at)+n])
	must(isName(s))
	return s
}

// sections takes the object's own sections, without their bytes.
func (f *file) sections(names int) {
	for _, row := range f.rows {
		if row.kind != typeBytes && row.kind != typeEmpty {
			f.number = append(f.number, -1)
			continue
		}
		must(row.address == 0 && row.flags <= maxFlags && isAlign(row.align))
		f.number = append(f.number, len(f.object.Sections))
		f.object.Sections = append(f.object.Sections, api.Section{Name: f.text(names, row.name), Kind: row.kind, Flags: row.flags, Align: row.align, Size: row.size})
		f.sizes += uint64(row.size)
	}
}

// in is where a symbol is, of the number of its section in the file.
func (f *file) in(section uint32) int {
	switch section {
	case indexNone:
		return api.InNone
	case indexAbs:
		return api.InAbs
	case indexCommon:
		return api.InCommon
	}
	must(int(section) < len(f.number) && f.number[section] >= 0)
	return f.number[section]
}

// symbol takes the next symbol, and tells whether it is the object's, and not a file's.
func (f *file) symbol(r *reader, names int) (s api.Symbol, bind uint8, own bool) {
	name := r.take(4)
	s.Value, s.Size = r.take(4), r.take(4)
	info, other, section := uint8(r.take(1)), r.take(1), r.take(2)
	s.Bind, s.Kind = info>>4, info&15
	must(s.Bind <= maxBind)
	if s.Kind == fileKind {
		return api.Symbol{}, s.Bind, false
	}
	must(s.Kind <= maxKind && (other == 0 || other == otherHidden))
	s.Name, s.Hidden, s.In = f.text(names, name), other == otherHidden, f.in(section)
	return s, s.Bind, true
}

// allSymbols takes the symbols, of the section of them, if there is one.
func (f *file) allSymbols() {
	for k, row := range f.rows {
		if row.kind == typeSymbols {
			must(f.symbols == 0)
			f.symbols = k
		}
	}
	f.renamed = []int{-1}
	if f.symbols == 0 {
		return
	}
	row, part := f.rows[f.symbols], f.parts[f.symbols]
	must(uint64(row.link) < uint64(len(f.rows)) && f.rows[row.link].kind == typeTexts)
	must(len(part) >= symbolSize && len(part)%symbolSize == 0 && ends.Zero(part, 0, symbolSize))
	r := reader{b: part, at: symbolSize}
	for k := 1; k < len(part)/symbolSize; k++ {
		s, bind, own := f.symbol(&r, int(row.link))
		must((bind == 0) == (uint64(k) < uint64(row.info)))
		if !own {
			f.renamed = append(f.renamed, -1)
			continue
		}
		f.renamed = append(f.renamed, len(f.object.Symbols))
		f.object.Symbols = append(f.object.Symbols, s)
	}
	must(row.info >= 1 && uint64(row.info) <= uint64(len(part)/symbolSize))
}

// allRelocs takes the relocations of all sections.
func (f *file) allRelocs() {
	for k, row := range f.rows {
		if row.kind != typeRelocs {
			continue
		}
		must(uint64(row.link) == uint64(f.symbols) && len(f.parts[k])%relocSize == 0)
		must(uint64(row.info) < uint64(len(f.rows)) && f.rows[row.info].kind == typeBytes)
		r := reader{b: f.parts[k]}
		for range len(f.parts[k]) / relocSize {
			f.reloc(&r, f.number[row.info])
		}
	}
	slices.SortStableFunc(f.object.Relocs, func(a, b api.Reloc) int { return a.Section - b.Section })
}

// reloc takes the next relocation. Of too many it is checked, and not kept.
func (f *file) reloc(r *reader, section int) {
	at, info, add := r.take(4), r.take(4), r.take(4)
	symbol := info >> 8
	must(at < f.object.Sections[section].Size && uint64(symbol) < uint64(len(f.renamed)))
	number := f.renamed[symbol]
	must(symbol == 0 || number >= 0)
	if f.count++; f.count <= maxRelocs {
		f.object.Relocs = append(f.object.Relocs, api.Reloc{Section: section, At: at, Kind: uint8(info), Symbol: number, Add: int32(add)})
	}
}

// limits leaves, if there is more than an object may have.
func (f *file) limits() {
	o := f.object
	if len(o.Sections) > maxSections || len(o.Symbols) > maxSymbols || f.count > maxRelocs || f.sizes > maxSizes {
		panic(wrong{api.ErrLimit})
	}
}

// fill gives the sections their bytes.
func (f *file) fill() {
	for k, row := range f.rows {
		if row.kind == typeBytes {
			f.object.Sections[f.number[k]].Bytes = bytes.Clone(f.parts[k])
		}
	}
}
