// Package spell takes lines of instructions off texts such as "wipe: csc c0 0 of c7" and "beq c4 c0 wipe".
package spell

import (
	"strconv"
	"strings"

	"bulwark/api"
	"bulwark/instr"
)

// special is the number of a special register's name.
func special(name string) (int32, bool) {
	switch name {
	case "cause":
		return api.SpecialCause, true
	case "mtcc":
		return api.SpecialMtcc, true
	case "mtdc":
		return api.SpecialMtdc, true
	case "mscratch":
		return api.SpecialScratch, true
	case "mepcc":
		return api.SpecialMepcc, true
	}
	return 0, false
}

// register is the number of a register's name.
func register(name string) (uint8, bool) {
	digits, ok := strings.CutPrefix(name, "c")
	n, err := strconv.ParseUint(digits, 10, 8)
	return uint8(n), ok && err == nil
}

// stands puts registers where an instruction has them, in the order in which they are said.
func stands(i *api.Instr, said []uint8) {
	fields := []*uint8{&i.Rd, &i.Rs1, &i.Rs2}
	switch {
	case i.Op >= api.Beq && i.Op <= api.Bgeu:
		fields = []*uint8{&i.Rs1, &i.Rs2}
	case i.Op >= api.Sb && i.Op <= api.Csc:
		fields = []*uint8{&i.Rs2, &i.Rs1}
	}
	for k, r := range said {
		if k < len(fields) {
			*fields[k] = r
		}
	}
}

// Line answers the line of a text: perhaps a label and a colon, an instruction's name, registers, a number, the name of a line.
func Line(text string) api.Line {
	var l api.Line
	label, rest, labelled := strings.Cut(text, ":")
	if !labelled {
		label, rest = "", text
	}
	l.Label = strings.TrimSpace(label)
	words := strings.Fields(rest)
	if len(words) == 0 {
		return l
	}
	l.I.Op, _ = instr.Named(words[0])
	var said []uint8
	for _, w := range words[1:] {
		if r, is := register(w); is {
			said = append(said, r)
		} else if n, is := special(w); is {
			l.I.Imm = n
		} else if n, err := strconv.ParseInt(w, 0, 32); err == nil {
			l.I.Imm = int32(n)
		} else if w != "of" {
			l.To = w
		}
	}
	stands(&l.I, said)
	return l
}
