// Package kit makes objects out of texts, for the tests of other packages.
//
// A text has a line for each thing: ".section NAME FLAGS ALIGN" begins a section of bytes, ".zero NAME FLAGS ALIGN SIZE" is one of Kind 8, ".global NAME", ".weak NAME" and ".common NAME SIZE" tell of symbols, ".word N" and ".bytes N" put bytes, all others are instructions (package spell). A label is a symbol. Behind @ stand a field's kind, its symbol (- of none), and perhaps what is added.
package kit

import (
	"strconv"
	"strings"

	"bulwark/api"
	"bulwark/elf"
	"bulwark/instr"
	"bulwark/spell"
)

// maker is an object that comes to be.
type maker struct {
	o      api.Object
	binds  map[string]uint8
	wanted []string // of each relocation the name of its symbol, empty of none
}

func number(s string) uint32 {
	n, _ := strconv.ParseInt(s, 0, 64)
	return uint32(n)
}

// put puts a number of four bytes behind the last section's.
func (m *maker) put(word uint32) {
	s := &m.o.Sections[len(m.o.Sections)-1]
	s.Bytes = append(s.Bytes, byte(word), byte(word>>8), byte(word>>16), byte(word>>24))
	s.Size = uint32(len(s.Bytes))
}

// directive does a line that begins with a point.
func (m *maker) directive(w []string) {
	switch w[0] {
	case ".section":
		m.o.Sections = append(m.o.Sections, api.Section{Name: w[1], Kind: 1, Flags: number(w[2]), Align: number(w[3])})
	case ".zero":
		m.o.Sections = append(m.o.Sections, api.Section{Name: w[1], Kind: 8, Flags: number(w[2]), Align: number(w[3]), Size: number(w[4])})
	case ".global":
		m.binds[w[1]] = 1
	case ".weak":
		m.binds[w[1]] = 2
	case ".common":
		m.binds[w[1]] = 1
		m.o.Symbols = append(m.o.Symbols, api.Symbol{Name: w[1], Size: number(w[2]), Value: 8, Kind: 1, In: api.InCommon})
	case ".abs":
		m.o.Symbols = append(m.o.Symbols, api.Symbol{Name: w[1], Value: number(w[2]), In: api.InAbs})
	case ".word":
		m.put(number(w[1]))
	case ".bytes":
		for range number(w[1]) / 4 {
			m.put(0)
		}
	}
}

// field tells of the field that the next four bytes are.
func (m *maker) field(text string) {
	w := strings.Fields(text)
	s := len(m.o.Sections) - 1
	r := api.Reloc{Section: s, At: m.o.Sections[s].Size, Kind: uint8(number(w[0]))}
	name := ""
	if w[1] != "-" {
		name = w[1]
	}
	if len(w) > 2 {
		r.Add = int32(number(w[2]))
	}
	m.o.Relocs, m.wanted = append(m.o.Relocs, r), append(m.wanted, name)
}

// line does one line of a text.
func (m *maker) line(text string) {
	said, field, has := strings.Cut(text, "@")
	if label, rest, labelled := strings.Cut(said, ":"); labelled {
		s := len(m.o.Sections) - 1
		m.o.Symbols = append(m.o.Symbols, api.Symbol{Name: strings.TrimSpace(label), Value: m.o.Sections[s].Size, In: s})
		said = rest
	}
	w := strings.Fields(said)
	if len(w) == 0 {
		return
	}
	if has {
		m.field(field)
	}
	if strings.HasPrefix(w[0], ".") {
		m.directive(w)
		return
	}
	word, _ := instr.Put(spell.Line(said).I)
	m.put(word)
}

// find is the number of a symbol, -1 of none.
func (m *maker) find(name string) int {
	for k, s := range m.o.Symbols {
		if s.Name == name {
			return k
		}
	}
	return -1
}

// finish puts symbols in order, and names them where fields ask for them. What nobody defines is undefined, and global if nothing else is said.
func (m *maker) finish() api.Object {
	for _, name := range m.wanted {
		if name != "" && m.find(name) < 0 {
			bind := m.binds[name]
			m.binds[name] = max(bind, 1)
			m.o.Symbols = append(m.o.Symbols, api.Symbol{Name: name, In: api.InNone})
		}
	}
	var locals, others []api.Symbol
	for _, s := range m.o.Symbols {
		s.Bind = m.binds[s.Name]
		if s.Bind == 0 {
			locals = append(locals, s)
		} else {
			others = append(others, s)
		}
	}
	m.o.Symbols = append(locals, others...)
	for k, name := range m.wanted {
		m.o.Relocs[k].Symbol = m.find(name)
		if name == "" {
			m.o.Relocs[k].Symbol = -1
		}
	}
	return m.o
}

// Object answers the object of a text.
func Object(text string) api.Object {
	m := maker{binds: map[string]uint8{}}
	for _, line := range strings.Split(text, "\n") {
		m.line(line)
	}
	return m.finish()
}

// File answers an object of a text as a file.
func File(name, text string) api.File {
	b, _ := elf.Put(Object(text))
	return api.File{Name: name, Bytes: b}
}

// Slot is the text that loads a slot in a register. The label names its first line.
func Slot(label, register, name string) string {
	return label + ": auipcc " + register + " 0 @23 " + name + "\nclc " + register + " 0 of " + register + " @24 " + label + "\n"
}

// Call is the text of a call of what is imported under a slot's name, by c5 and c6. The label, a and b behind it, names its lines.
func Call(label, name string) string {
	return Slot(label+"a", "c6", name) + Slot(label+"b", "c5", "switch") + "cjalr c1 0 of c5\n"
}
