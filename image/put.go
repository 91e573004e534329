// Package image is layer 20: an image as bytes.
package image

import (
	"iter"
	"slices"

	"bulwark/api"
	"bulwark/capa"
	"bulwark/ends"
	"bulwark/plan"
	"bulwark/same"
)

const (
	magic      = "bwk\x01"
	size       = api.Devices
	granule    = 8
	granules   = size / granule
	maxRegions = 64
	maxOwner   = 15
	nobody     = -1
	nobodyByte = 255
)

// mayRegion tells whether a region may be an image's.
func mayRegion(r api.Region) bool {
	return r.Kind >= api.RegSwitch && r.Kind <= api.RegData && r.Owner >= nobody && r.Owner <= maxOwner && uint64(r.At)+uint64(r.N) <= size
}

// rise tells whether granules' numbers rise, and are an image's.
func rise(tags []int) bool {
	last := -1
	for _, g := range tags {
		if g <= last || g >= granules {
			return false
		}
		last = g
	}
	return true
}

// caps are the capabilities of a state that an image's bytes tell, in order.
func caps(s *api.State) []*api.Cap {
	return []*api.Cap{&s.Pcc, &s.Regs[1], &s.Regs[2], &s.Regs[3], &s.Mtcc, &s.Mtdc}
}

// mayStart tells whether a state has nothing else than what an image's bytes tell.
func mayStart(s api.State) bool {
	told := api.State{On: s.On}
	to := caps(&told)
	for k, c := range caps(&s) {
		*to[k] = capa.Of(capa.Bytes(*c), c.Tag)
	}
	return told == s
}

// may tells whether an image may be, but for its plan.
func may(i api.Image) bool {
	if len(i.Bytes) != size || !rise(i.Tags) || len(i.Regions) > maxRegions || !mayStart(i.Start) {
		return false
	}
	for _, r := range i.Regions {
		if !mayRegion(r) {
			return false
		}
	}
	return true
}

// runs goes through the longest runs of granules that are not all 0 without a tag: where each begins, and where it ends.
func runs(i api.Image) iter.Seq2[int, int] {
	return func(yield func(from, to int) bool) {
		from, tags := -1, i.Tags
		for g := range granules {
			tagged := len(tags) > 0 && tags[0] == g
			if tagged {
				tags = tags[1:]
			}
			empty := !tagged && ends.Zero(i.Bytes, g*granule, granule)
			if !empty && from < 0 {
				from = g * granule
			}
			if empty && from >= 0 {
				if !yield(from, g*granule) {
					return
				}
				from = -1
			}
		}
		if from >= 0 {
			yield(from, size)
		}
	}
}

// writer puts numbers and bytes behind one another.
type writer struct{ b []byte }

func (w *writer) put(n, size int) {
	b, _ := ends.Put(uint64(n), size)
	w.b = append(w.b, b...)
}

// flag writes a byte that is 1, if something is so.
func (w *writer) flag(is bool) {
	if is {
		w.put(1, 1)
	} else {
		w.put(0, 1)
	}
}

func (w *writer) regions(l []api.Region) {
	w.put(len(l), 1)
	for _, r := range l {
		owner := r.Owner
		if owner == nobody {
			owner = nobodyByte
		}
		w.put(int(r.Kind), 1)
		w.put(owner, 1)
		w.put(int(r.At), 2)
		w.put(int(r.N), 4)
	}
}

// runs writes the runs, their number ahead of them.
func (w *writer) runs(i api.Image) {
	count := 0
	for range runs(i) {
		count++
	}
	w.put(count, 2)
	for from, to := range runs(i) {
		w.put(from, 2)
		w.put(to-from, 2)
		w.b = append(w.b, i.Bytes[from:to:to]...)
	}
}

func (w *writer) start(s api.State) {
	for _, c := range caps(&s) {
		b := capa.Bytes(*c)
		w.b = append(w.b, b[:]...)
		w.flag(c.Tag)
	}
	w.flag(s.On)
}

// Put answers an image's bytes.
func Put(i api.Image) ([]byte, api.Errno) {
	text, e := plan.Put(i.Plan)
	if e != api.OK || !may(i) {
		return nil, api.ErrArg
	}
	w := writer{b: []byte(magic)}
	w.put(len(text), 2)
	w.b = append(w.b, text...)
	w.regions(i.Regions)
	w.runs(i)
	w.put(len(i.Tags), 2)
	for _, g := range i.Tags {
		w.put(g, 2)
	}
	w.start(i.Start)
	return w.b, api.OK
}

// Same tells whether two images are the same.
func Same(a, b api.Image) bool {
	return slices.Equal(a.Regions, b.Regions) && slices.Equal(a.Bytes, b.Bytes) && slices.Equal(a.Tags, b.Tags) && a.Start == b.Start && same.Plans(a.Plan, b.Plan)
}
