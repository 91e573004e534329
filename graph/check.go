package graph

import (
	"bulwark/api"
	"bulwark/gate"
	"bulwark/image"
	"bulwark/link"
	"bulwark/memory"
	"bulwark/outset"
	"bulwark/place"
	"bulwark/tables"
)

const (
	first     = 64
	granule   = 8
	wordSize  = 4
	frameSize = 32
	entrySize = 24
	wordAt    = 16
)

// region is the region of a kind and an owner. All are there, once they were checked.
func region(i api.Image, kind uint8, owner int) api.Region {
	r, _ := tables.Region(i.Regions, kind, owner)
	return r
}

// slots is how many slots a compartment has.
func slots(c api.Compartment) int { return 1 + len(c.Imports) + len(c.Devices) + len(c.Gives) }

// asked are the regions that a plan asks for, without their places.
func asked(p api.Plan) []api.Region {
	l := []api.Region{{Kind: api.RegSwitch, Owner: nobody}, {Kind: api.RegTrusted, Owner: nobody}, {Kind: api.RegStack, Owner: nobody}}
	for k := range p.Shares {
		l = append(l, api.Region{Kind: api.RegShare, Owner: k})
	}
	for c := range p.Compartments {
		for _, kind := range []uint8{api.RegExports, api.RegCode, api.RegData} {
			l = append(l, api.Region{Kind: kind, Owner: c})
		}
	}
	return l
}

// needs is for how many bytes a region has room, or at least has it.
func needs(p api.Plan, r api.Region) (n int, least bool) {
	switch r.Kind {
	case api.RegSwitch:
		return gate.Size(), false
	case api.RegTrusted:
		return frameSize * p.Trusted, false
	case api.RegStack:
		return p.Stack, false
	case api.RegShare:
		return p.Shares[r.Owner].N, false
	case api.RegExports:
		return entrySize * len(p.Compartments[r.Owner].Exports), false
	case api.RegCode:
		return granule * slots(p.Compartments[r.Owner]), true
	}
	return 0, true
}

// fits tells whether a region is exact, and has just the room that it needs.
func fits(p api.Plan, r api.Region) bool {
	n, least := needs(p, r)
	_, size, ok := place.Room(n)
	from, whole, exact := place.Next(int(r.At), int(r.N), 1)
	if !ok || !exact || from != int(r.At) || whole != int(r.N) {
		return false
	}
	return size == whole || least && n <= whole
}

// placed tells whether regions are those that the plan asks for.
func placed(i api.Image) bool {
	l := asked(i.Plan)
	if len(l) != len(i.Regions) {
		return false
	}
	end := uint32(first)
	for k, r := range i.Regions {
		if r.Kind != l[k].Kind || r.Owner != l[k].Owner || r.At < end || !fits(i.Plan, r) {
			return false
		}
		end = r.At + r.N
	}
	return true
}

// checker is an image whose capabilities are held against what tables says.
type checker struct {
	i     api.Image
	m     *memory.Memory
	due   map[int]int // how often a granule has a capability
	words [][]uint32  // of the compartments' exports
	main  uint32      // the place of the start's export
}

// holds tells whether just that capability stands at a place, and notes that it is due there.
func (k *checker) holds(at uint32, c api.Cap) bool {
	k.due[int(at/granule)]++
	stands, e := k.m.LoadCap(at)
	return e == api.OK && stands == c
}

// slots checks a compartment's slots.
func (k *checker) slots(c int) bool {
	l, e := tables.Slots(k.i.Plan, k.i.Regions, c)
	if e != api.OK {
		return false
	}
	base := region(k.i, api.RegCode, c).At
	for n, slot := range l {
		if !k.holds(base+granule*uint32(n), slot) {
			return false
		}
	}
	return true
}

// entry checks one entry of a compartment's exports, for the place, the arguments and the stack that stand there.
func (k *checker) entry(c, n int) bool {
	base := region(k.i, api.RegExports, c).At + entrySize*uint32(n)
	sentry, _ := k.m.LoadCap(base)
	word, _ := k.m.Load(base+wordAt, wordSize)
	fills, _, e := tables.Entry(k.i.Regions, c, sentry.Addr, int(word&lowByte), int(word>>stackShift))
	if e != api.OK || sentry.Addr%wordSize != 0 {
		return false
	}
	for _, f := range fills {
		if !k.holds(base+f.At, f.Cap) {
			return false
		}
	}
	k.words[c] = append(k.words[c], word)
	if c == k.i.Plan.Start && k.i.Plan.Compartments[c].Exports[n].Name == k.i.Plan.Main {
		k.main = sentry.Addr
	}
	return true
}

// capabilities checks all that stand in slots and exports, and that none stands elsewhere.
func (k *checker) capabilities() bool {
	for c, x := range k.i.Plan.Compartments {
		if !k.slots(c) {
			return false
		}
		for n := range x.Exports {
			if !k.entry(c, n) {
				return false
			}
		}
	}
	for _, g := range k.i.Tags {
		if k.due[g] == 0 {
			return false
		}
	}
	return true
}

// switcher checks the switcher's words.
func (k *checker) switcher() bool {
	at := region(k.i, api.RegSwitch, nobody).At
	for n, word := range gate.Words() {
		if stands, _ := k.m.Load(at+wordSize*uint32(n), wordSize); stands != word {
			return false
		}
	}
	return true
}

// check answers the words of all exports of an image, if it is one that link could have answered.
func check(i api.Image) ([][]uint32, api.Errno) {
	if _, e := image.Put(i); e != api.OK {
		return nil, api.ErrArg
	}
	m, e := link.Load(i)
	if e != api.OK || !placed(i) {
		return nil, api.ErrForm
	}
	k := checker{i: i, m: m, due: map[int]int{}, words: make([][]uint32, len(i.Plan.Compartments))}
	if !k.capabilities() || !k.switcher() {
		return nil, api.ErrForm
	}
	start, e := outset.State(i.Regions, i.Plan.Start, k.main)
	if e != api.OK || start != i.Start {
		return nil, api.ErrForm
	}
	return k.words, api.OK
}
