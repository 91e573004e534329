package lines_test

import (
	"math"
	"math/rand"
	"reflect"
	"strings"
	"testing"

	"bulwark/api"
	"bulwark/lines"
)

func line(n int, words ...string) api.Words { return api.Words{Line: n, Words: words} }

func TestRead(t *testing.T) {
	for name, c := range map[string]struct {
		text string
		want []api.Words
		e    api.Errno
	}{
		"example":            {"a b # c\n\nd", []api.Words{line(1, "a", "b"), line(3, "d")}, api.OK},
		"empty":              {"", nil, api.OK},
		"ends alone":         {"\n\n\n", nil, api.OK},
		"blanks and tabs":    {" \ta\t\tb  c \n \t \n", []api.Words{line(1, "a", "b", "c")}, api.OK},
		"a remark alone":     {"# a\n  #\n", nil, api.OK},
		"# within a word":    {"a#b c #d e\n", []api.Words{line(1, "a#b", "c")}, api.OK},
		"33 and 126":         {"!~", []api.Words{line(1, "!~")}, api.OK},
		"13":                 {"a\r\n", nil, api.ErrForm},
		"127":                {"a\x7f", nil, api.ErrForm},
		"0":                  {"\x00", nil, api.ErrForm},
		"31":                 {"\x1f", nil, api.ErrForm},
		"no rune":            {"a\xff", nil, api.ErrForm},
		"a great rune":       {"# \u00e9", nil, api.ErrForm},
		"100 bytes":          {strings.Repeat("x", 100), []api.Words{line(1, strings.Repeat("x", 100))}, api.OK},
		"101 bytes":          {strings.Repeat("x", 101), nil, api.ErrLimit},
		"101 bytes, remark":  {"#" + strings.Repeat(" ", 100), nil, api.ErrLimit},
		"400 lines":          {strings.Repeat("\n", 399) + "a\n", []api.Words{line(400, "a")}, api.OK},
		"400, no end":        {strings.Repeat("\n", 399) + "a", []api.Words{line(400, "a")}, api.OK},
		"401 lines":          {strings.Repeat("\n", 400) + "a", nil, api.ErrLimit},
		"401 empty lines":    {strings.Repeat("\n", 401), nil, api.ErrLimit},
		"400 empty lines":    {strings.Repeat("\n", 400), nil, api.OK},
		"form ahead of long": {strings.Repeat("x", 101) + "\n\x00", nil, api.ErrForm},
		"form ahead of many": {strings.Repeat("\n", 500) + "\x80", nil, api.ErrForm},
	} {
		l, e := lines.Read(c.text)
		if e != c.e || len(l) != len(c.want) || len(l) > 0 && !reflect.DeepEqual(l, c.want) {
			t.Errorf("%s: %v, %d", name, l, e)
		}
	}
}

func TestPut(t *testing.T) {
	many := make([]api.Words, 401)
	for k := range many {
		many[k] = line(0, "a")
	}
	for name, c := range map[string]struct {
		l    []api.Words
		want string
		e    api.Errno
	}{
		"none":             {nil, "", api.OK},
		"two":              {[]api.Words{line(7, "a", "b#"), line(7, "c")}, "a b#\nc\n", api.OK},
		"no words":         {[]api.Words{line(1, "a"), line(2)}, "", api.ErrForm},
		"an empty word":    {[]api.Words{line(1, "a", "")}, "", api.ErrForm},
		"a blank":          {[]api.Words{line(1, "a b")}, "", api.ErrForm},
		"an end":           {[]api.Words{line(1, "a\n")}, "", api.ErrForm},
		"127":              {[]api.Words{line(1, "\x7f")}, "", api.ErrForm},
		"no rune":          {[]api.Words{line(1, "\xff")}, "", api.ErrForm},
		"a remark":         {[]api.Words{line(1, "a", "#b")}, "", api.ErrForm},
		"100 bytes":        {[]api.Words{line(1, strings.Repeat("x", 98), "y")}, strings.Repeat("x", 98) + " y\n", api.OK},
		"101 bytes":        {[]api.Words{line(1, strings.Repeat("x", 98), "yy")}, "", api.ErrLimit},
		"400 lines":        {many[:400], strings.Repeat("a\n", 400), api.OK},
		"401 lines":        {many, "", api.ErrLimit},
		"form ahead":       {append(many[:401:401], line(1, "#")), "", api.ErrForm},
		"form behind long": {[]api.Words{line(1, strings.Repeat("x", 101)), line(1, "")}, "", api.ErrForm},
	} {
		if s, e := lines.Put(c.l); s != c.want || e != c.e {
			t.Errorf("%s: %q, %d", name, s, e)
		}
	}
}

func TestNumber(t *testing.T) {
	for s, want := range map[string]uint32{"0": 0, "7": 7, "10": 10, "4294967295": math.MaxUint32, "0x0": 0, "0x1f": 31, "0x00000001": 1, "0xffffffff": math.MaxUint32, "0xa9": 169, "1000000000": 1000000000} {
		if n, ok := lines.Number(s); n != want || !ok {
			t.Errorf("Number(%q) = %d, %v", s, n, ok)
		}
	}
	for _, s := range []string{"", "007", "00", "4294967296", "99999999999999999999999", "-1", "+1", "1 ", " 1", "1a", "0x", "0x1F", "0X1", "0x000000001", "0x1_0", "1_0", "x1", "a", "0xg", "00x1", "0b1", "0o7", "1e3", "\u0661"} {
		if n, ok := lines.Number(s); n != 0 || ok {
			t.Errorf("Number(%q) = %d, %v", s, n, ok)
		}
	}
}

func TestWordsComeBack(t *testing.T) {
	r := rand.New(rand.NewSource(2))
	for range 300 {
		l := make([]api.Words, r.Intn(20))
		for k := range l {
			l[k].Line = k + 1
			for range 1 + r.Intn(8) {
				w := make([]byte, 1+r.Intn(10))
				for i := range w {
					w[i] = byte(33 + r.Intn(94))
				}
				if w[0] == '#' {
					w[0] = 'x'
				}
				l[k].Words = append(l[k].Words, string(w))
			}
		}
		text, e := lines.Put(l)
		if e != api.OK {
			t.Fatal(e)
		}
		if back, e := lines.Read(text); e != api.OK || len(l) > 0 && !reflect.DeepEqual(back, l) || len(back) != len(l) {
			t.Fatalf("%v came back as %v, %d", l, back, e)
		}
	}
}
