package elf_test

import (
	"encoding/binary"
	"math"
	"math/rand"
	"reflect"
	"slices"
	"strings"
	"testing"

	"bulwark/api"
	"bulwark/elf"
)

// small is an object with one of each.
func small() api.Object {
	return api.Object{
		Sections: []api.Section{
			{Name: ".text", Kind: 1, Flags: 6, Align: 4, Size: 5, Bytes: []byte{1, 2, 3, 4, 5}},
			{Name: ".bss", Kind: 8, Flags: 3, Align: 8, Size: 100},
			{Name: "", Kind: 1, Flags: 0, Align: 1, Size: 8, Bytes: []byte("abcdefgh")},
		},
		Symbols: []api.Symbol{
			{Name: "", Kind: 3, In: 0},
			{Name: "loc", Value: 4, Size: 2, Kind: 1, In: 2},
			{Name: "main", Value: 0x01020304, Size: 5, Bind: 1, Kind: 2, In: 0, Hidden: true},
			{Name: "loc", Bind: 2, In: api.InNone},
			{Name: "abs", Value: 7, Bind: 1, In: api.InAbs},
			{Name: "com", Value: 8, Size: 16, Bind: 1, Kind: 1, In: api.InCommon},
		},
		Relocs: []api.Reloc{
			{Section: 0, At: 4, Kind: 16, Symbol: 2, Add: -1},
			{Section: 0, At: 0, Kind: 51, Symbol: -1},
			{Section: 2, At: 7, Kind: 255, Symbol: 5, Add: math.MinInt32},
		},
	}
}

type row struct{ name, kind, flags, addr, off, size, link, info, align, each uint32 }

// file puts a file together by hand.
type file struct {
	head []byte
	body []byte
	rows []row
}

func words(l ...uint32) []byte {
	var b []byte
	for _, n := range l {
		b = binary.LittleEndian.AppendUint32(b, n)
	}
	return b
}

func (f *file) add(r row, b string) {
	for len(f.body)%4 != 0 {
		f.body = append(f.body, 0)
	}
	r.off = uint32(52 + len(f.body))
	if r.kind != 8 {
		r.size = uint32(len(b))
	}
	f.body = append(f.body, b...)
	f.rows = append(f.rows, r)
}

func (f *file) bytes(names int) []byte {
	for len(f.body)%4 != 0 {
		f.body = append(f.body, 0)
	}
	b := []byte("\x7fELF\x01\x01\x01\x00\x00\x00\x00\x00\x00\x00\x00\x00\x01\x00\xf3\x00")
	b = append(b, words(1, 0, 0, uint32(52+len(f.body)), 0)...)
	for _, n := range []int{52, 0, 0, 40, len(f.rows), names} {
		b = binary.LittleEndian.AppendUint16(b, uint16(n))
	}
	b = append(b, f.body...)
	for _, r := range f.rows {
		b = append(b, words(r.name, r.kind, r.flags, r.addr, r.off, r.size, r.link, r.info, r.align, r.each)...)
	}
	return b
}

func sym(name, value, size uint32, info, other byte, section uint16) string {
	return string(words(name, value, size)) + string([]byte{info, other, byte(section), byte(section >> 8)})
}

// smallFile is small as a file, by hand.
func smallFile() file {
	var f file
	f.rows = []row{{}}
	f.add(row{name: 1, kind: 1, flags: 6, align: 4}, "\x01\x02\x03\x04\x05")
	f.add(row{name: 7, kind: 8, flags: 3, align: 8, size: 100}, "")
	f.add(row{kind: 1, align: 1}, "abcdefgh")
	f.add(row{kind: 2, link: 5, info: 3, align: 4, each: 16},
		sym(0, 0, 0, 0, 0, 0)+sym(0, 0, 0, 3, 0, 1)+sym(1, 4, 2, 1, 0, 3)+sym(5, 0x01020304, 5, 0x12, 2, 1)+sym(10, 0, 0, 0x20, 0, 0)+sym(14, 7, 0, 0x10, 0, 0xfff1)+sym(18, 8, 16, 0x11, 0, 0xfff2))
	f.add(row{kind: 3, align: 1}, "\x00loc\x00main\x00loc\x00abs\x00com\x00")
	f.add(row{kind: 4, link: 4, info: 1, align: 4, each: 12}, string(words(4, 3<<8|16, math.MaxUint32, 0, 51, 0)))
	f.add(row{kind: 4, link: 4, info: 3, align: 4, each: 12}, string(words(7, 6<<8|255, 1<<31)))
	f.add(row{kind: 3, align: 1}, "\x00.text\x00.bss\x00")
	return f
}

func TestPutForm(t *testing.T) {
	f := smallFile()
	// The kind 8 section stands where the next part begins.
	f.rows[2].off = f.rows[3].off
	want := f.bytes(8)
	got, e := elf.Put(small())
	if e != api.OK || !slices.Equal(got, want) {
		t.Errorf("%d\n%x\n%x", e, got, want)
	}
	o, e := elf.Read(want)
	if e != api.OK || !reflect.DeepEqual(o, small()) {
		t.Errorf("%+v, %d", o, e)
	}
}

func TestEmpty(t *testing.T) {
	b, e := elf.Put(api.Object{})
	if e != api.OK || string(b[:4]) != "\x7fELF" {
		t.Fatalf("%x, %d", b, e)
	}
	if o, e := elf.Read(b); e != api.OK || len(o.Sections) != 0 || len(o.Symbols) != 0 || len(o.Relocs) != 0 {
		t.Errorf("%+v, %d", o, e)
	}
	for _, b := range []string{"", "\x7fELF\x01\x01\x01"} {
		if _, e := elf.Read([]byte(b)); e != api.ErrShort {
			t.Errorf("Read(%q): %d", b, e)
		}
	}
}

func TestMay(t *testing.T) {
	for name, c := range map[string]struct {
		change func(o *api.Object)
		want   bool
	}{
		"as it is":              {func(o *api.Object) {}, true},
		"64 bytes of a name":    {func(o *api.Object) { o.Sections[0].Name = strings.Repeat("x", 64) }, true},
		"65 bytes of a name":    {func(o *api.Object) { o.Sections[0].Name = strings.Repeat("x", 65) }, false},
		"a blank in a name":     {func(o *api.Object) { o.Sections[0].Name = "a b" }, false},
		"127 in a name":         {func(o *api.Object) { o.Symbols[0].Name = "\x7f" }, false},
		"33 and 126":            {func(o *api.Object) { o.Symbols[0].Name = "!~" }, true},
		"no kind":               {func(o *api.Object) { o.Sections[0].Kind = 2 }, false},
		"flags 7":               {func(o *api.Object) { o.Sections[0].Flags = 7 }, true},
		"flags 8":               {func(o *api.Object) { o.Sections[0].Flags = 8 }, false},
		"align 256":             {func(o *api.Object) { o.Sections[0].Align = 256 }, true},
		"align 512":             {func(o *api.Object) { o.Sections[0].Align = 512 }, false},
		"align 0":               {func(o *api.Object) { o.Sections[0].Align = 0 }, false},
		"align 6":               {func(o *api.Object) { o.Sections[0].Align = 6 }, false},
		"too few bytes":         {func(o *api.Object) { o.Sections[2].Size = 9 }, false},
		"too many bytes":        {func(o *api.Object) { o.Sections[2].Size = 7 }, false},
		"bytes of kind 8":       {func(o *api.Object) { o.Sections[1].Bytes = []byte{1} }, false},
		"bind 3":                {func(o *api.Object) { o.Symbols[5].Bind = 3 }, false},
		"kind 4":                {func(o *api.Object) { o.Symbols[5].Kind = 4 }, false},
		"in 3":                  {func(o *api.Object) { o.Symbols[5].In = 3 }, false},
		"in -4":                 {func(o *api.Object) { o.Symbols[5].In = -4 }, false},
		"a local behind others": {func(o *api.Object) { o.Symbols[5].Bind = 0 }, false},
		"reloc of section 3":    {func(o *api.Object) { o.Relocs[2].Section = 3 }, false},
		"reloc of section -1":   {func(o *api.Object) { o.Relocs[0].Section = -1 }, false},
		"reloc of kind 8":       {func(o *api.Object) { o.Relocs[2].Section = 1 }, false},
		"reloc behind":          {func(o *api.Object) { o.Relocs[2].At = 8 }, false},
		"relocs out of order":   {func(o *api.Object) { o.Relocs[0].Section = 2 }, false},
		"reloc of symbol 6":     {func(o *api.Object) { o.Relocs[2].Symbol = 6 }, false},
		"reloc of symbol -2":    {func(o *api.Object) { o.Relocs[2].Symbol = -2 }, false},
		"sizes 32768":           {func(o *api.Object) { o.Sections[1].Size = 32768 - 13 }, true},
		"sizes 32769":           {func(o *api.Object) { o.Sections[1].Size = 32768 - 12 }, false},
		"sizes that go round":   {func(o *api.Object) { o.Sections[1].Size = math.MaxUint32 - 12 }, false},
		"64 sections":           {func(o *api.Object) { o.Sections = append(o.Sections, many(61)...) }, true},
		"65 sections":           {func(o *api.Object) { o.Sections = append(o.Sections, many(62)...) }, false},
		"512 symbols":           {func(o *api.Object) { o.Symbols = append(o.Symbols, weak(506)...) }, true},
		"513 symbols":           {func(o *api.Object) { o.Symbols = append(o.Symbols, weak(507)...) }, false},
		"1024 relocs":           {func(o *api.Object) { o.Relocs = append(o.Relocs, fields(1021)...) }, true},
		"1025 relocs":           {func(o *api.Object) { o.Relocs = append(o.Relocs, fields(1022)...) }, false},
	} {
		o := small()
		c.change(&o)
		if got := elf.May(o); got != c.want {
			t.Errorf("%s: %v", name, got)
		}
		b, e := elf.Put(o)
		if (e == api.OK) != c.want || !c.want && (e != api.ErrArg || len(b) != 0) {
			t.Errorf("%s: Put: %d", name, e)
		}
		if c.want {
			if back, e := elf.Read(b); e != api.OK || !elf.Same(back, o) {
				t.Errorf("%s: Read: %d", name, e)
			}
		}
	}
}

func many(n int) []api.Section  { return slices.Repeat([]api.Section{{Kind: 8, Align: 1}}, n) }
func weak(n int) []api.Symbol   { return slices.Repeat([]api.Symbol{{Bind: 2, In: api.InNone}}, n) }
func fields(n int) []api.Reloc  { return slices.Repeat([]api.Reloc{{Section: 2, Symbol: -1}}, n) }
func set16(b []byte, at, n int) { binary.LittleEndian.PutUint16(b[at:], uint16(n)) }
func set32(b []byte, at int, n uint32) {
	binary.LittleEndian.PutUint32(b[at:], n)
}

// Of each byte of the header: what is otherwise is refused.
func TestReadHeader(t *testing.T) {
	f := smallFile()
	good := f.bytes(8)
	for at := range 52 {
		b := slices.Clone(good)
		b[at] ^= 1
		o, e := elf.Read(b)
		want := api.ErrForm
		if at >= 32 && at < 36 || at == 48 || at == 49 {
			// Where the table stands, and how many rows it has: it may end behind the bytes.
			if e == api.OK {
				t.Errorf("byte %d: read", at)
			}
			continue
		}
		if e != want || !reflect.DeepEqual(o, api.Object{}) {
			t.Errorf("byte %d: %d", at, e)
		}
	}
}

func TestReadRefuses(t *testing.T) {
	for name, c := range map[string]struct {
		change func(f *file)
		want   api.Errno
	}{
		"as it is":             {func(f *file) {}, api.OK},
		"first row's rest":     {func(f *file) { f.rows[0] = row{1, 0, 3, 4, 1 << 30, 1 << 30, 7, 8, 9, 10} }, api.OK},
		"first row's type":     {func(f *file) { f.rows[0].kind = 1 }, api.ErrForm},
		"first row, and short": {func(f *file) { f.rows[0] = row{kind: 1, off: 1 << 30} }, api.ErrShort},
		"a section's address":  {func(f *file) { f.rows[1].addr = 4 }, api.ErrForm},
		"a table's address":    {func(f *file) { f.rows[4].addr = 4; f.rows[5].addr = 4; f.rows[6].addr = 4 }, api.OK},
		"a section's flags":    {func(f *file) { f.rows[1].flags = 16 }, api.ErrForm},
		"a table's flags":      {func(f *file) { f.rows[4].flags = 64; f.rows[5].flags = 32; f.rows[6].flags = 64 }, api.OK},
		"a section's align":    {func(f *file) { f.rows[1].align = 0 }, api.ErrForm},
		"a table's align":      {func(f *file) { f.rows[4].align = 0; f.rows[5].align = 3; f.rows[6].align = 0 }, api.OK},
		"a section's link, info": {func(f *file) {
			f.rows[1].link = 9
			f.rows[1].info = 9
			f.rows[1].each = 9
			f.rows[5].link = 9
			f.rows[5].info = 9
		}, api.OK},
		"entry's sizes":           {func(f *file) { f.rows[4].each = 0; f.rows[6].each = 99; f.rows[5].each = 1 }, api.OK},
		"a table's name":          {func(f *file) { f.rows[4].name = 1; f.rows[6].name = 1 }, api.OK},
		"a name behind texts":     {func(f *file) { f.rows[1].name = 12 }, api.ErrForm},
		"a name's tail":           {func(f *file) { f.rows[1].name = 3 }, api.OK},
		"a section short":         {func(f *file) { f.rows[1].off = 1 << 20 }, api.ErrShort},
		"a section too long":      {func(f *file) { f.rows[1].size = 1 << 20 }, api.ErrShort},
		"a place that goes round": {func(f *file) { f.rows[1].off = math.MaxUint32; f.rows[1].size = math.MaxUint32 }, api.ErrShort},
		"empty, far away":         {func(f *file) { f.rows[1].off = math.MaxUint32; f.rows[1].size = 0 }, api.ErrShort},
		"kind 8, far away":        {func(f *file) { f.rows[2].off = math.MaxUint32 }, api.OK},
		"another type":            {func(f *file) { f.add(row{name: 99, kind: 7, flags: 99, addr: 9, align: 3}, "note") }, api.OK},
		"another type, short":     {func(f *file) { f.add(row{kind: 7}, ""); f.rows[9].size = 1 << 20 }, api.ErrShort},
		"none in the middle":      {func(f *file) { f.add(row{kind: 0, flags: 99}, ""); f.rows[9].off = 1 << 30 }, api.OK},
		"two of symbols":          {func(f *file) { f.add(f.rows[4], sym(0, 0, 0, 0, 0, 0)) }, api.ErrForm},
		"short, and form":         {func(f *file) { f.rows[1].addr = 4; f.rows[3].off = 1 << 20 }, api.ErrShort},
		"symbols' link":           {func(f *file) { f.rows[4].link = 3 }, api.ErrForm},
		"symbols' link beyond":    {func(f *file) { f.rows[4].link = 99 }, api.ErrForm},
		"symbols' info, more":     {func(f *file) { f.rows[4].info = 4 }, api.ErrForm},
		"symbols' info, less":     {func(f *file) { f.rows[4].info = 2 }, api.ErrForm},
		"symbols' info 0":         {func(f *file) { f.rows[4].info = 0 }, api.ErrForm},
		"symbols' size":           {func(f *file) { f.rows[4].size-- }, api.ErrForm},
		"no first symbol":         {func(f *file) { f.rows[4].size = 0 }, api.ErrForm},
		"relocs' link":            {func(f *file) { f.rows[6].link = 5 }, api.ErrForm},
		"relocs' link 0":          {func(f *file) { f.rows[6].link = 0 }, api.ErrForm},
		"relocs' info 0":          {func(f *file) { f.rows[6].info = 0 }, api.ErrForm},
		"relocs of kind 8":        {func(f *file) { f.rows[6].info = 2 }, api.ErrForm},
		"relocs of texts":         {func(f *file) { f.rows[6].info = 5 }, api.ErrForm},
		"relocs of none":          {func(f *file) { f.rows[6].info = 99 }, api.ErrForm},
		"relocs' size":            {func(f *file) { f.rows[6].size = 13 }, api.ErrForm},
		"too great":               {func(f *file) { f.rows[2].size = 32768 - 12 }, api.ErrLimit},
		"too great, and form":     {func(f *file) { f.rows[2].size = 32768 - 12; f.rows[6].link = 0 }, api.ErrForm},
		"sizes that go round":     {func(f *file) { f.rows[2].size = math.MaxUint32 - 12 }, api.ErrLimit},
		"65 sections": {func(f *file) {
			for range 62 {
				f.add(row{kind: 8, align: 1}, "")
			}
		}, api.ErrLimit},
		"1025 relocs": {func(f *file) {
			f.add(row{kind: 4, link: 4, info: 1}, strings.Repeat(string(words(0, 0, 0)), 1022))
		}, api.ErrLimit},
		"1024 relocs": {func(f *file) {
			f.add(row{kind: 4, link: 4, info: 1}, strings.Repeat(string(words(0, 0, 0)), 1021))
		}, api.OK},
	} {
		f := smallFile()
		c.change(&f)
		o, e := elf.Read(f.bytes(8))
		if e != c.want || e != api.OK && !reflect.DeepEqual(o, api.Object{}) {
			t.Errorf("%s: %d", name, e)
		}
		if e == api.OK && !elf.May(o) {
			t.Errorf("%s: what is read may not be", name)
		}
	}
}

func TestReadNames(t *testing.T) {
	for _, names := range []int{0, 1, 4, 9, 65535} {
		f := smallFile()
		if _, e := elf.Read(f.bytes(names)); e != api.ErrForm {
			t.Errorf("names in %d: %d", names, e)
		}
	}
	f := file{}
	if _, e := elf.Read(f.bytes(0)); e != api.ErrForm {
		t.Errorf("no table: %d", e)
	}
}

// withSymbols makes a file of one section, these symbols, and relocations.
func withSymbols(info uint32, symbols, texts, relocs string) []byte {
	var f file
	f.rows = []row{{}}
	f.add(row{kind: 1, align: 4}, "\x01\x02\x03\x04")
	f.add(row{kind: 2, link: 3, info: info}, symbols)
	f.add(row{kind: 3}, texts)
	f.add(row{kind: 4, link: 2, info: 1}, relocs)
	return f.bytes(3)
}

func TestReadSymbols(t *testing.T) {
	first := sym(0, 0, 0, 0, 0, 0)
	for name, c := range map[string]struct {
		info                   uint32
		symbols, texts, relocs string
		want                   api.Errno
		count                  int
	}{
		"none":                 {1, first, "\x00", "", api.OK, 0},
		"first not empty":      {1, sym(0, 1, 0, 0, 0, 0), "\x00", "", api.ErrForm, 0},
		"a file":               {2, first + sym(99, 9, 9, 4, 9, 0xfff1), "\x00", "", api.OK, 0},
		"a file between":       {3, first + sym(1, 0, 0, 4, 0, 0xfff1) + sym(1, 0, 0, 0, 0, 1), "\x00a\x00", string(words(0, 2<<8, 0)), api.OK, 1},
		"a file is named":      {3, first + sym(1, 0, 0, 4, 0, 0xfff1) + sym(1, 0, 0, 0, 0, 1), "\x00a\x00", string(words(0, 1<<8, 0)), api.ErrForm, 0},
		"a file that is weak":  {1, first + sym(0, 0, 0, 0x24, 0, 0), "\x00", "", api.OK, 0},
		"a file, info is off":  {1, first + sym(0, 0, 0, 4, 0, 0), "\x00", "", api.ErrForm, 0},
		"a file of bind 3":     {1, first + sym(0, 0, 0, 0x34, 0, 0), "\x00", "", api.ErrForm, 0},
		"bind 3":               {1, first + sym(0, 0, 0, 0x30, 0, 0), "\x00", "", api.ErrForm, 0},
		"kind 5":               {1, first + sym(0, 0, 0, 0x15, 0, 0), "\x00", "", api.ErrForm, 0},
		"other 1":              {1, first + sym(0, 0, 0, 0x10, 1, 0), "\x00", "", api.ErrForm, 0},
		"other 2":              {1, first + sym(0, 0, 0, 0x10, 2, 0), "\x00", "", api.OK, 1},
		"in texts":             {1, first + sym(0, 0, 0, 0x10, 0, 3), "\x00", "", api.ErrForm, 0},
		"in none that is":      {1, first + sym(0, 0, 0, 0x10, 0, 9), "\x00", "", api.ErrForm, 0},
		"in fff3":              {1, first + sym(0, 0, 0, 0x10, 0, 0xfff3), "\x00", "", api.ErrForm, 0},
		"local behind global":  {1, first + sym(0, 0, 0, 0x10, 0, 0) + sym(0, 0, 0, 0, 0, 0), "\x00", "", api.ErrForm, 0},
		"no end of a text":     {1, first + sym(1, 0, 0, 0x10, 0, 0), "\x00a", "", api.ErrForm, 0},
		"64 bytes":             {1, first + sym(1, 0, 0, 0x10, 0, 0), "\x00" + strings.Repeat("x", 64) + "\x00", "", api.OK, 1},
		"65 bytes":             {1, first + sym(1, 0, 0, 0x10, 0, 0), "\x00" + strings.Repeat("x", 65) + "\x00", "", api.ErrForm, 0},
		"a blank":              {1, first + sym(1, 0, 0, 0x10, 0, 0), "\x00a b\x00", "", api.ErrForm, 0},
		"512":                  {1, first + strings.Repeat(sym(0, 0, 0, 0x10, 0, 0), 512), "\x00", "", api.OK, 512},
		"513":                  {1, first + strings.Repeat(sym(0, 0, 0, 0x10, 0, 0), 513), "\x00", "", api.ErrLimit, 0},
		"512 and a file":       {2, first + sym(0, 0, 0, 4, 0, 0) + strings.Repeat(sym(0, 0, 0, 0x10, 0, 0), 512), "\x00", "", api.OK, 512},
		"relocation behind":    {1, first, "\x00", string(words(4, 0, 0)), api.ErrForm, 0},
		"relocation of none":   {1, first, "\x00", string(words(3, 1, 0)), api.OK, 0},
		"relocation of no one": {1, first, "\x00", string(words(0, 1<<8, 0)), api.ErrForm, 0},
	} {
		o, e := elf.Read(withSymbols(c.info, c.symbols, c.texts, c.relocs))
		if e != c.want || len(o.Symbols) != c.count {
			t.Errorf("%s: %d symbols, %d", name, len(o.Symbols), e)
		}
		if name == "a file between" && e == api.OK && o.Relocs[0].Symbol != 0 {
			t.Errorf("%s: numbered %d", name, o.Relocs[0].Symbol)
		}
	}
}

func TestReadWithoutSymbols(t *testing.T) {
	for _, c := range []struct {
		link, info uint32
		want       api.Errno
	}{{0, 0, api.OK}, {1, 0, api.ErrForm}, {0, 1 << 8, api.ErrForm}} {
		var f file
		f.rows = []row{{}}
		f.add(row{kind: 1, align: 4}, "\x01\x02\x03\x04")
		f.add(row{kind: 4, link: c.link, info: 1}, string(words(0, c.info, 7)))
		f.add(row{kind: 3}, "\x00")
		o, e := elf.Read(f.bytes(3))
		if e != c.want || e == api.OK && !slices.Equal(o.Relocs, []api.Reloc{{Symbol: -1, Add: 7}}) {
			t.Errorf("%v: %+v, %d", c, o, e)
		}
	}
}

// The order of parts is not asked for; relocations come by rising sections, of each as they come.
func TestReadOrder(t *testing.T) {
	var f file
	f.rows = []row{{}}
	f.add(row{kind: 3}, "\x00a\x00b\x00")
	f.add(row{kind: 4, link: 4, info: 6}, string(words(1, 1, 0, 0, 2, 0)))
	f.add(row{kind: 1, name: 1, align: 1}, "xx")
	f.add(row{kind: 2, link: 1, info: 1}, sym(0, 0, 0, 0, 0, 0)+sym(3, 0, 0, 0x10, 0, 6))
	f.add(row{kind: 4, link: 4, info: 3}, string(words(1, 1<<8|3, 0)))
	f.add(row{kind: 1, name: 3, align: 2}, "yy")
	f.add(row{kind: 4, link: 4, info: 6}, string(words(0, 4, 0)))
	o, e := elf.Read(f.bytes(1))
	want := api.Object{
		Sections: []api.Section{{Name: "a", Kind: 1, Align: 1, Size: 2, Bytes: []byte("xx")}, {Name: "b", Kind: 1, Align: 2, Size: 2, Bytes: []byte("yy")}},
		Symbols:  []api.Symbol{{Name: "b", Bind: 1, In: 1}},
		Relocs:   []api.Reloc{{Section: 0, At: 1, Kind: 3, Symbol: 0}, {Section: 1, At: 1, Kind: 1, Symbol: -1}, {Section: 1, At: 0, Kind: 2, Symbol: -1}, {Section: 1, At: 0, Kind: 4, Symbol: -1}},
	}
	if e != api.OK || !reflect.DeepEqual(o, want) {
		t.Errorf("%+v, %d", o, e)
	}
}

func TestReadTooMuch(t *testing.T) {
	b, _ := elf.Put(small())
	if _, e := elf.Read(append(b, make([]byte, 65536-len(b))...)); e != api.OK {
		t.Errorf("65536 bytes: %d", e)
	}
	if _, e := elf.Read(make([]byte, 65537)); e != api.ErrLimit {
		t.Errorf("65537 bytes: %d", e)
	}
	for n := range b {
		if _, e := elf.Read(b[:n]); e != api.ErrShort {
			t.Errorf("%d bytes: %d", n, e)
		}
	}
}

// No bytes make it panic, and what is read may be, and is put, and comes back.
func TestReadAnything(t *testing.T) {
	r := rand.New(rand.NewSource(3))
	good, _ := elf.Put(small())
	read := 0
	for range 20000 {
		b := slices.Clone(good)
		for range 1 + r.Intn(3) {
			b[r.Intn(len(b))] = byte(r.Intn(256))
		}
		o, e := elf.Read(b)
		if e != api.OK {
			continue
		}
		read++
		again, e := elf.Put(o)
		if !elf.May(o) || e != api.OK {
			t.Fatalf("%x: what is read may not be", b)
		}
		if back, e := elf.Read(again); e != api.OK || !elf.Same(back, o) {
			t.Fatalf("%x: does not come back", b)
		}
	}
	if read == 0 {
		t.Error("nothing was read")
	}
}

func TestSame(t *testing.T) {
	empty := small()
	empty.Sections[1].Bytes = []byte{}
	if !elf.Same(small(), empty) || !elf.Same(api.Object{}, api.Object{Sections: []api.Section{}, Symbols: []api.Symbol{}, Relocs: []api.Reloc{}}) {
		t.Error("nil and empty are the same")
	}
	for k, change := range []func(o *api.Object){
		func(o *api.Object) { o.Sections[0].Bytes[4]++ }, func(o *api.Object) { o.Sections[0].Name = "x" }, func(o *api.Object) { o.Sections[0].Kind++ },
		func(o *api.Object) { o.Sections[0].Flags++ }, func(o *api.Object) { o.Sections[0].Align++ }, func(o *api.Object) { o.Sections[0].Size++ },
		func(o *api.Object) { o.Sections = o.Sections[:2] }, func(o *api.Object) { o.Symbols[0].Hidden = true }, func(o *api.Object) { o.Symbols = o.Symbols[:5] },
		func(o *api.Object) { o.Relocs[0].Add++ }, func(o *api.Object) { o.Relocs = nil },
	} {
		o := small()
		change(&o)
		if elf.Same(o, small()) || elf.Same(small(), o) {
			t.Errorf("%d: the same", k)
		}
	}
}

func TestNewMemory(t *testing.T) {
	b, _ := elf.Put(small())
	o, _ := elf.Read(b)
	o.Sections[0].Bytes[0] = 99
	_ = append(o.Sections[0].Bytes, 77)
	again, e := elf.Read(b)
	if e != api.OK || !elf.Same(again, small()) {
		t.Error("what is read shares memory with the bytes")
	}
}
