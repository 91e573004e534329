package gate_test

import (
	"fmt"
	"slices"
	"strings"
	"testing"

	"bulwark/api"
	"bulwark/asm"
	"bulwark/gate"
	"bulwark/instr"
)

// listing is the switcher as the chapter says it: what stands behind "each" is said once for each number.
const listing = `
enter: c.gettag c4 c1; beq c4 c0 fault; c.gettype c4 c1; beq c4 c0 fault; addi c5 c0 4; bgeu c4 c5 fault
c.gettag c4 c6; beq c4 c0 refuse; c.gettype c4 c6; addi c5 c0 4; bne c4 c5 refuse; c.unseal c6 c6
c.gettag c4 c2; beq c4 c0 refuse; c.gettype c4 c2; bne c4 c0 refuse; c.getperm c4 c2; addi c5 c0 39; bne c4 c5 refuse
c.getbase c4 c2; c.getaddr c5 c2; bltu c5 c4 refuse; c.getlen c7 c2; add c7 c7 c4; bltu c7 c5 refuse; or c7 c4 c5; andi c7 c7 7; bne c7 c0 refuse
sub c8 c5 c4; lw c9 16 of c6; srli c7 c9 8; bltu c8 c7 refuse
c.specialrw c7 mtdc c0; c.getbase c4 c7; c.getlen c5 c7; add c4 c4 c5; c.getaddr c5 c7; addi c5 c5 32; bltu c4 c5 refuse
csc c2 0 of c7; csc c3 8 of c7; csc c1 16 of c7; c.incaddrimm c7 c7 32; c.specialrw c0 mtdc c7
c.getbase c4 c2; c.getaddr c5 c2; c.setaddr c2 c2 c4; c.setbounds c2 c2 c8; c.move c7 c2
wipe: beq c8 c0 wiped; csc c0 0 of c7; c.incaddrimm c7 c7 8; addi c8 c8 -8; cjal c0 wipe
wiped: c.setaddr c2 c2 c5; clc c1 0 of c6; clc c3 8 of c6; andi c9 c9 255
each 10 15: addi c4 c0 (R - 10); bltu c4 c9 keepR; c.move cR c0; keepR: c.gettype c4 cR; beq c4 c0 openR; c.cleartag cR cR; openR: addi c4 c0 19; c.andperm cR cR c4
each 4 9: c.move cR c0
cjalr c1 0 of c1
back: c.specialrw c7 mtdc c0; c.getbase c4 c7; c.getaddr c5 c7; beq c4 c5 stop; c.incaddrimm c7 c7 -32
clc c2 0 of c7; clc c3 8 of c7; clc c1 16 of c7; c.specialrw c0 mtdc c7
c.getbase c4 c2; c.getaddr c5 c2; sub c8 c5 c4; c.setaddr c7 c2 c4
clean: beq c8 c0 cleaned; csc c0 0 of c7; c.incaddrimm c7 c7 8; addi c8 c8 -8; cjal c0 clean
cleaned: each 10 11: c.gettype c4 cR; beq c4 c0 plainR; c.cleartag cR cR; plainR: c.getperm c4 cR; andi c4 c4 16; bne c4 c0 wideR; c.cleartag cR cR; wideR: addi c4 c0 19; c.andperm cR cR c4
leave: each 4 9: c.move cR c0
each 12 15: c.move cR c0
cjalr c0 0 of c1
refuse: addi c10 c0 -2; c.move c11 c0; cjal c0 leave
fault: addi c10 c0 -1; c.move c11 c0; cjal c0 back
trap: c.specialrw c4 mscratch c4; c.specialrw c4 cause c0; blt c4 c0 timer; cjal c0 fault
timer: c.specialrw c4 mscratch c0; mret
stop: cjal c0 stop
`

// expand says each line of the listing, a label ahead of it where one stands.
func expand() []string {
	var l []string
	for _, row := range strings.Split(strings.TrimSpace(listing), "\n") {
		from, to, rest := 0, 0, row
		label := ""
		if head, tail, ok := strings.Cut(row, ": each "); ok {
			label, rest = head+": ", "each "+tail
		}
		if n, _ := fmt.Sscanf(rest, "each %d %d:", &from, &to); n == 2 {
			_, rest, _ = strings.Cut(rest, ": ")
		}
		for r := from; r <= to; r++ {
			s := strings.ReplaceAll(rest, "(R - 10)", fmt.Sprint(r-10))
			for _, x := range strings.Split(strings.ReplaceAll(s, "R", fmt.Sprint(r)), "; ") {
				l = append(l, label+x)
				label = ""
			}
		}
	}
	return l
}

// said is a line as the listing says it.
func said(x api.Line) string {
	i := x.I
	name, _ := instr.Name(i.Op)
	s := ""
	switch {
	case i.Op >= api.Beq && i.Op <= api.Bgeu:
		s = fmt.Sprintf("%s c%d c%d", name, i.Rs1, i.Rs2)
	case i.Op == api.Cjal:
		s = fmt.Sprintf("%s c%d", name, i.Rd)
	case i.Op >= api.Lb && i.Op <= api.Lhu || i.Op == api.Cjalr:
		s = fmt.Sprintf("%s c%d %d of c%d", name, i.Rd, i.Imm, i.Rs1)
	case i.Op >= api.Sb && i.Op <= api.Csc:
		s = fmt.Sprintf("%s c%d %d of c%d", name, i.Rs2, i.Imm, i.Rs1)
	case i.Op >= api.Addi && i.Op <= api.Srai || i.Op == api.CIncAddrImm:
		s = fmt.Sprintf("%s c%d c%d %d", name, i.Rd, i.Rs1, i.Imm)
	case i.Op == api.CSpecialRw:
		s = fmt.Sprintf("%s c%d %s c%d", name, i.Rd, map[int32]string{27: "cause", 29: "mtdc", 30: "mscratch"}[i.Imm], i.Rs1)
	case i.Op == api.Mret:
		s = name
	case i.Op >= api.CGetPerm && i.Op <= api.CSentry || i.Op == api.CUnseal:
		s = fmt.Sprintf("%s c%d c%d", name, i.Rd, i.Rs1)
	default:
		s = fmt.Sprintf("%s c%d c%d c%d", name, i.Rd, i.Rs1, i.Rs2)
	}
	if x.To != "" {
		s += " " + x.To
	}
	if x.Label != "" {
		s = x.Label + ": " + s
	}
	return s
}

func TestLines(t *testing.T) {
	want, lines := expand(), gate.Lines()
	if len(lines) != len(want) {
		t.Errorf("%d lines, not %d", len(lines), len(want))
	}
	for k, x := range lines {
		if k < len(want) && said(x) != want[k] {
			t.Errorf("line %d: %s, not %s", k, said(x), want[k])
		}
		if x.To != "" && x.I.Imm != 0 {
			t.Errorf("line %d: an Imm of its own", k)
		}
	}
	lines[0] = api.Line{}
	if gate.Lines()[0] != (api.Line{Label: "enter", I: api.Instr{Op: api.CGetTag, Rd: 4, Rs1: 1}}) {
		t.Error("the first line")
	}
}

func TestWordsAndSize(t *testing.T) {
	want, e := asm.Put(0, gate.Lines())
	if got := gate.Words(); e != api.OK || !slices.Equal(got, want) || gate.Size() != 4*len(want) || len(got) == 0 {
		t.Errorf("%d words, %d bytes, %d", len(got), gate.Size(), e)
	}
}

func TestPlace(t *testing.T) {
	found := 0
	for k, x := range gate.Lines() {
		if x.Label == "" {
			continue
		}
		found++
		if at, e := gate.Place(x.Label); at != uint32(4*k) || e != api.OK {
			t.Errorf("%s: %d, %d", x.Label, at, e)
		}
	}
	if at, e := gate.Place("enter"); at != 0 || e != api.OK || found != 28 {
		t.Errorf("enter: %d, %d, of %d", at, e, found)
	}
	for _, s := range []string{"nowhere", "", "Enter", "keep9", "keepR"} {
		if at, e := gate.Place(s); at != 0 || e != api.ErrNone {
			t.Errorf("%q: %d, %d", s, at, e)
		}
	}
}

// No line leads out of them but by cjalr and mret.
func TestNothingLeadsOut(t *testing.T) {
	words := gate.Words()
	for k, w := range words {
		i, e := instr.Get(w)
		if e != api.OK {
			t.Fatalf("%d: %08x is no instruction", k, w)
		}
		at := 4*k + int(i.Imm)
		if branch := i.Op >= api.Beq && i.Op <= api.Bgeu || i.Op == api.Cjal; branch && (at < 0 || at >= 4*len(words) || at%4 != 0) {
			t.Errorf("%d leads to %d", k, at)
		}
		last := k == len(words)-1
		if goesOn := i.Op != api.Cjal && i.Op != api.Cjalr && i.Op != api.Mret; last && goesOn {
			t.Error("the last line goes on behind the end")
		}
	}
}
