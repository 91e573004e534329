package ar

import (
	"strconv"
	"strings"

	"bulwark/api"
)

// may tells whether members and an index may be.
func may(l []api.Member, index []api.Indexed) bool {
	seen := map[string]int{}
	for k, m := range l {
		if _, twice := seen[m.Name]; twice || !isName(m.Name) {
			return false
		}
		seen[m.Name] = k
	}
	for _, x := range index {
		if x.Member < 0 || x.Member >= len(l) || !isIndexName(x.Name) {
			return false
		}
	}
	return true
}

// even is n, or one more.
func even(n int) int { return n + n%2 }

// indexSize is how many bytes the index has.
func indexSize(index []api.Indexed) int {
	size := 4
	for _, x := range index {
		size += 4 + len(x.Name) + 1
	}
	return size
}

// heads are where the members' heads stand, and behind them where the archive ends.
func heads(l []api.Member, index []api.Indexed) (at []int, end int) {
	end = len(magic)
	if len(index) > 0 {
		end += headSize + indexSize(index)
	}
	for _, m := range l {
		at = append(at, even(end))
		end = even(end) + headSize + len(m.Bytes)
	}
	return at, end
}

// writer puts an archive together.
type writer struct{ strings.Builder }

// field writes a text, and blanks up to a width.
func (w *writer) field(s string, width int) {
	w.WriteString(s)
	w.WriteString(strings.Repeat(" ", width-len(s)))
}

// head writes a head, at an even place.
func (w *writer) head(name string, size int) {
	if w.Len()%2 != 0 {
		w.WriteByte('\n')
	}
	w.field(name, nameSize)
	for _, width := range []int{12, 6, 6, 8} {
		w.field("0", width)
	}
	w.field(strconv.Itoa(size), sizeTo-sizeFrom)
	w.WriteString(headEnd)
}

// word writes a number of four bytes, the highest first.
func (w *writer) word(n int) {
	for shift := 24; shift >= 0; shift -= 8 {
		w.WriteByte(byte(n >> shift))
	}
}

// index writes the index, of members whose heads stand there.
func (w *writer) index(index []api.Indexed, at []int) {
	w.head(stroke, indexSize(index))
	w.word(len(index))
	for _, x := range index {
		w.word(at[x.Member])
	}
	for _, x := range index {
		w.WriteString(x.Name)
		w.WriteByte(0)
	}
}

// Put answers the archive of members, and of an index.
func Put(l []api.Member, index []api.Indexed) ([]byte, api.Errno) {
	if !may(l, index) {
		return nil, api.ErrArg
	}
	at, end := heads(l, index)
	if end > maxBytes {
		return nil, api.ErrLimit
	}
	var w writer
	w.WriteString(magic)
	if len(index) > 0 {
		w.index(index, at)
	}
	for _, m := range l {
		w.head(m.Name+stroke, len(m.Bytes))
		w.Write(m.Bytes)
	}
	return []byte(w.String()), api.OK
}
