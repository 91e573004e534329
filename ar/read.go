package ar

import (
	"strconv"
	"strings"

	"bulwark/api"
)

// piece is a head's name, where the head stands, and the bytes behind it.
type piece struct {
	name string
	at   int
	body string
}

// Read answers an archive's members, and its index.
func Read(b []byte) ([]api.Member, []api.Indexed, api.Errno) {
	if len(b) > maxBytes {
		return nil, nil, api.ErrLimit
	}
	pieces, e := split(string(b))
	if e != api.OK {
		return nil, nil, e
	}
	var table piece
	indexed := len(pieces) > 0 && isAlone(pieces[0].name)
	if indexed {
		table, pieces = pieces[0], pieces[1:]
	}
	members, places, ok := all(pieces)
	if !ok {
		return nil, nil, api.ErrForm
	}
	if !indexed {
		return members, nil, api.OK
	}
	index, ok := rows(table.body, places)
	if !ok {
		return nil, nil, api.ErrForm
	}
	return members, index, api.OK
}

// split takes an archive apart, from the left, and asks just for what tells where parts stand.
func split(s string) ([]piece, api.Errno) {
	if len(s) < len(magic) {
		return nil, api.ErrShort
	}
	if !strings.HasPrefix(s, magic) {
		return nil, api.ErrForm
	}
	var pieces []piece
	for at := len(magic); at < len(s); {
		if at%2 != 0 {
			if s[at] != '\n' || at+1 == len(s) {
				return nil, api.ErrForm
			}
			at++
		}
		if len(s)-at < headSize {
			return nil, api.ErrShort
		}
		head := s[at : at+headSize]
		size, ok := sizeOf(head[sizeFrom:sizeTo])
		if !ok || head[sizeTo:] != headEnd {
			return nil, api.ErrForm
		}
		from := at + headSize
		if size > uint64(len(s)-from) {
			return nil, api.ErrShort
		}
		end := from + int(size)
		pieces = append(pieces, piece{head[:nameSize], at, s[from:end]})
		at = end
	}
	return pieces, api.OK
}

// sizeOf is a size in tens, with blanks behind it: as Put writes it, so that no size has two texts.
func sizeOf(field string) (uint64, bool) {
	digits := strings.TrimRight(field, " ")
	size, err := strconv.ParseUint(digits, 10, 64)
	return size, err == nil && strconv.FormatUint(size, 10) == digits
}

// isAlone tells whether a head's name is the index's.
func isAlone(name string) bool { return strings.TrimRight(name, " ") == stroke }

// all takes the members, and says at which place each one's head stands.
func all(pieces []piece) ([]api.Member, map[int]int, bool) {
	members := make([]api.Member, 0, len(pieces))
	places, seen := map[int]int{}, map[string]int{}
	for k, p := range pieces {
		name, behind, found := strings.Cut(p.name, stroke)
		if _, twice := seen[name]; twice || !found || !isName(name) || strings.Trim(behind, " ") != "" {
			return nil, nil, false
		}
		seen[name], places[p.at] = k, k
		members = append(members, api.Member{Name: strings.Clone(name), Bytes: []byte(p.body)})
	}
	return members, places, true
}

// word takes a number of four bytes, the highest first, off a text.
func word(s string) (n uint32, rest string, ok bool) {
	if len(s) < 4 {
		return 0, "", false
	}
	return uint32(s[0])<<24 | uint32(s[1])<<16 | uint32(s[2])<<8 | uint32(s[3]), s[4:], true
}

// rows takes the index apart.
func rows(body string, places map[int]int) ([]api.Indexed, bool) {
	count, rest, ok := word(body)
	if !ok || uint64(count)*4 > uint64(len(rest)) {
		return nil, false
	}
	index := make([]api.Indexed, 0, count)
	names := rest[4*count:]
	for range count {
		var at uint32
		at, rest, _ = word(rest)
		member, there := places[int(at)]
		name, behind, ended := strings.Cut(names, "\x00")
		if !there || !ended || name == "" {
			return nil, false
		}
		index = append(index, api.Indexed{Name: strings.Clone(name), Member: member})
		names = behind
	}
	return index, names == ""
}
