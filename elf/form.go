package elf

// Sizes of what stands in a file.
const (
	headerSize = 52
	entrySize  = 40
	symbolSize = 16
	relocSize  = 12
)

// Types of a file's sections.
const (
	typeNone    = 0
	typeBytes   = 1
	typeSymbols = 2
	typeTexts   = 3
	typeRelocs  = 4
	typeEmpty   = 8
)

// Sections of symbols that are in none of the object's.
const (
	indexNone   = 0
	indexAbs    = 0xfff1
	indexCommon = 0xfff2
)

// What else stands at a place that is the same in all files.
const (
	fileKind    = 4
	otherHidden = 2
	ident       = "\x7fELF\x01\x01\x01\x00\x00\x00\x00\x00\x00\x00\x00\x00"
	typeObject  = 1
	machine     = 243
	version     = 1
)

// entry is a row of a file's table of sections.
type entry struct {
	name, kind, flags, address, offset, size, link, info, align, each uint32
}
