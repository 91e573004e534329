package ar_test

import (
	"bytes"
	"fmt"
	"math/rand"
	"reflect"
	"slices"
	"strings"
	"testing"

	"bulwark/api"
	"bulwark/ar"
)

const magic = "!<arch>\n"

func head(name string, size any) string {
	return fmt.Sprintf("%-16s%-12s%-6s%-6s%-8s%-10v`\n", name, "0", "0", "0", "0", size)
}

func member(name, body string) api.Member { return api.Member{Name: name, Bytes: []byte(body)} }

func TestExamples(t *testing.T) {
	if l, x, e := ar.Read([]byte(magic)); len(l) != 0 || len(x) != 0 || e != api.OK {
		t.Errorf("%v, %v, %d", l, x, e)
	}
	if _, _, e := ar.Read(nil); e != api.ErrShort {
		t.Errorf("none: %d", e)
	}
	if b, e := ar.Put(nil, nil); len(b) != 8 || e != api.OK {
		t.Errorf("%q, %d", b, e)
	}
	if b, e := ar.Put([]api.Member{member("a", "x")}, nil); len(b) != 69 || e != api.OK {
		t.Errorf("%q, %d", b, e)
	}
}

func TestPutForm(t *testing.T) {
	l := []api.Member{member("a.o", "xyz"), member("123456789012345", ""), member("b", "12")}
	index := []api.Indexed{{Name: "g", Member: 2}, {Name: "f\x01", Member: 0}, {Name: "g", Member: 1}}
	// The head stands at 8, the table from 68 to 91; members' heads at 92, 156, 216.
	table := "\x00\x00\x00\x03" + "\x00\x00\x00\xd8" + "\x00\x00\x00\x5c" + "\x00\x00\x00\x9c" + "g\x00f\x01\x00g\x00"
	want := magic + head("/", len(table)) + table + "\n" + head("a.o/", 3) + "xyz" + "\n" + head("123456789012345/", 0) + head("b/", 2) + "12"
	got, e := ar.Put(l, index)
	if string(got) != want || e != api.OK {
		t.Errorf("%d\n%q\n%q", e, got, want)
	}
	m, x, e := ar.Read([]byte(want))
	if e != api.OK || !slices.EqualFunc(m, l, func(a, b api.Member) bool { return a.Name == b.Name && bytes.Equal(a.Bytes, b.Bytes) }) || !slices.Equal(x, index) {
		t.Errorf("%v, %v, %d", m, x, e)
	}
}

func TestPutRefuses(t *testing.T) {
	a := member("a", "x")
	for name, c := range map[string]struct {
		l     []api.Member
		index []api.Indexed
		want  api.Errno
	}{
		"fine":             {[]api.Member{a, member("b", "")}, []api.Indexed{{Name: "x y", Member: 1}}, api.OK},
		"no name":          {[]api.Member{member("", "")}, nil, api.ErrArg},
		"16 bytes":         {[]api.Member{member("1234567890123456", "")}, nil, api.ErrArg},
		"a stroke":         {[]api.Member{member("a/b", "")}, nil, api.ErrArg},
		"the stroke":       {[]api.Member{member("/", "")}, nil, api.ErrArg},
		"a blank":          {[]api.Member{member("a b", "")}, nil, api.ErrArg},
		"127":              {[]api.Member{member("a\x7f", "")}, nil, api.ErrArg},
		"33 and 126":       {[]api.Member{member("!~", "")}, nil, api.OK},
		"twice":            {[]api.Member{a, a}, nil, api.ErrArg},
		"no such member":   {[]api.Member{a}, []api.Indexed{{Name: "f", Member: 1}}, api.ErrArg},
		"member -1":        {[]api.Member{a}, []api.Indexed{{Name: "f", Member: -1}}, api.ErrArg},
		"of none":          {nil, []api.Indexed{{Name: "f"}}, api.ErrArg},
		"empty in index":   {[]api.Member{a}, []api.Indexed{{}}, api.ErrArg},
		"a 0 in index":     {[]api.Member{a}, []api.Indexed{{Name: "f\x00"}}, api.ErrArg},
		"65536 bytes":      {[]api.Member{member("a", strings.Repeat("x", 65468))}, nil, api.OK},
		"65537 bytes":      {[]api.Member{member("a", strings.Repeat("x", 65469))}, nil, api.ErrLimit},
		"65537, and a bad": {[]api.Member{member("a", strings.Repeat("x", 65469)), a}, nil, api.ErrArg},
		"too long a name":  {[]api.Member{a}, []api.Indexed{{Name: strings.Repeat("x", 66000)}}, api.ErrLimit},
	} {
		b, e := ar.Put(c.l, c.index)
		if e != c.want || e != api.OK && len(b) != 0 {
			t.Errorf("%s: %d bytes, %d", name, len(b), e)
		}
		if e == api.OK {
			if _, _, e := ar.Read(b); e != api.OK {
				t.Errorf("%s: Read: %d", name, e)
			}
		}
	}
}

func TestRead(t *testing.T) {
	one := head("a/", 1) + "x"
	index := func(table string) string { return magic + head("/", len(table)) + table }
	at := func(n int) string { return string([]byte{0, 0, byte(n >> 8), byte(n)}) }
	for name, c := range map[string]struct {
		text  string
		want  api.Errno
		count int
	}{
		"six bytes":                   {"!<arch", api.ErrShort, 0},
		"seven others":                {"xxxxxxx", api.ErrShort, 0},
		"others":                      {"!<arcx>\n", api.ErrForm, 0},
		"one":                         {magic + one, api.OK, 1},
		"a byte behind":               {magic + one + "\n", api.ErrForm, 0},
		"another byte behind":         {magic + one + "x", api.ErrForm, 0},
		"two":                         {magic + one + "\n" + head("b/", 0), api.OK, 2},
		"two, no byte between":        {magic + one + head("b/", 0), api.ErrForm, 0},
		"two, another byte":           {magic + one + " " + head("b/", 0), api.ErrForm, 0},
		"two, needless byte":          {magic + head("b/", 0) + "\n" + one, api.ErrForm, 0},
		"half a head":                 {magic + one[:59], api.ErrShort, 0},
		"no head behind the byte":     {magic + one + "\n" + one[:20], api.ErrShort, 0},
		"half a member":               {magic + head("a/", 2) + "x", api.ErrShort, 0},
		"a huge size":                 {magic + head("a/", 9999999999) + "x", api.ErrShort, 0},
		"a size of letters":           {magic + head("a/", "1x") + "x", api.ErrForm, 0},
		"a size with a sign":          {magic + head("a/", "+1") + "x", api.ErrForm, 0},
		"a blank ahead of a size":     {magic + head("a/", " 1") + "x", api.ErrForm, 0},
		"a blank in a size":           {magic + head("a/", "1 0") + "xxxxxxxxxx", api.ErrForm, 0},
		"no size":                     {magic + head("a/", "") + "x", api.ErrForm, 0},
		"a needless nought":           {magic + head("a/", "01") + "x", api.ErrForm, 0},
		"ten digits, nine noughts":    {magic + head("a/", "0000000001") + "x", api.ErrForm, 0},
		"two noughts":                 {magic + head("a/", "00"), api.ErrForm, 0},
		"a nought ahead of short":     {magic + head("a/", "09") + "x", api.ErrForm, 0},
		"a nought in an index's size": {magic + head("/", "04") + at(0), api.ErrForm, 0},
		"an index's size":             {magic + head("/", "4") + at(0), api.OK, 0},
		"a size of nought":            {magic + head("a/", "0"), api.OK, 1},
		"a size with a nought behind": {magic + head("a/", "10") + "xxxxxxxxxx", api.OK, 1},
		"a size with a minus":         {magic + head("a/", "-0"), api.ErrForm, 0},
		"a size in sixteens":          {magic + head("a/", "0x1") + "x", api.ErrForm, 0},
		"a size with a low stroke":    {magic + head("a/", "1_0") + "xxxxxxxxxx", api.ErrForm, 0},
		"a tab behind a size":         {magic + head("a/", "1\t") + "x", api.ErrForm, 0},
		"another end of a head":       {magic + strings.Replace(one, "`\n", "`x", 1), api.ErrForm, 0},
		"and another":                 {magic + strings.Replace(one, "`\n", "x\n", 1), api.ErrForm, 0},
		"head's end ahead of short":   {magic + strings.Replace(head("a/", 5), "`\n", "`x", 1), api.ErrForm, 0},
		"short ahead of a name":       {magic + head("a b/", 1) + "x\n" + head("c/", 9), api.ErrShort, 0},
		"dates of all kinds":          {magic + "a/              date:       owner group mode    1         `\nx", api.OK, 1},
		"no stroke":                   {magic + head("a", 1) + "x", api.ErrForm, 0},
		"16 bytes without a stroke":   {magic + head("1234567890123456", 1) + "x", api.ErrForm, 0},
		"15 bytes and a stroke":       {magic + head("123456789012345/", 1) + "x", api.OK, 1},
		"something behind a stroke":   {magic + head("a/b", 1) + "x", api.ErrForm, 0},
		"a blank, and something":      {magic + head("a/ b", 1) + "x", api.ErrForm, 0},
		"a blank in a name":           {magic + head("a b/", 1) + "x", api.ErrForm, 0},
		"two strokes":                 {magic + head("//", 1) + "x", api.ErrForm, 0},
		"a tab in a name":             {magic + head("a\t/", 1) + "x", api.ErrForm, 0},
		"two of one name":             {magic + one + "\n" + one, api.ErrForm, 0},
		"an index behind":             {magic + one + "\n" + head("/", 4) + at(0), api.ErrForm, 0},
		"two indexes":                 {index(at(0)) + head("/", 4) + at(0), api.ErrForm, 0},
		"an index of no bytes":        {index(""), api.ErrForm, 0},
		"an index of three":           {index("\x00\x00\x00"), api.ErrForm, 0},
		"an index of none":            {index(at(0)) + one, api.OK, 1},
		"an index of one":             {index(at(1)+at(78)+"f\x00") + one, api.OK, 1},
		"an index with a byte behind": {index(at(1)+at(80)+"f\x00x") + "\n" + one, api.ErrForm, 0},
		"an index with an empty name": {index(at(1)+at(78)+"\x00") + "\n" + one, api.ErrForm, 0},
		"an index without an end":     {index(at(1)+at(78)+"fg") + one, api.ErrForm, 0},
		"an index of a place between": {index(at(1)+at(79)+"f\x00") + one, api.ErrForm, 0},
		"an index of itself":          {index(at(1)+at(8)+"f\x00") + one, api.ErrForm, 0},
		"an index of the end":         {index(at(1)+at(139)+"f\x00") + one, api.ErrForm, 0},
		"an index of too many":        {index(at(2)+at(78)+"f\x00") + one, api.ErrForm, 0},
		"an index of very many":       {index("\xff\xff\xff\xff"+at(78)+"f\x00") + one, api.ErrForm, 0},
		"a place of four high bytes":  {index(at(1)+"\x01\x00\x00\x4e"+"f\x00") + one, api.ErrForm, 0},
		"65536 bytes":                 {magic + head("a/", 65468) + strings.Repeat("x", 65468), api.OK, 1},
		"65537 bytes":                 {magic + head("a/", 65469) + strings.Repeat("x", 65469), api.ErrLimit, 0},
		"65537 bytes of nothing":      {strings.Repeat("x", 65537), api.ErrLimit, 0},
	} {
		l, x, e := ar.Read([]byte(c.text))
		if e != c.want || len(l) != c.count || e != api.OK && len(x) != 0 {
			t.Errorf("%s: %v, %v, %d", name, l, x, e)
		}
	}
}

func TestIndexIsTold(t *testing.T) {
	l, x, e := ar.Read([]byte(magic + head("/", 10) + "\x00\x00\x00\x01\x00\x00\x00\x8cf\x00" + head("a/", 1) + "x\n" + head("b/", 0)))
	if e != api.OK || !reflect.DeepEqual(x, []api.Indexed{{Name: "f", Member: 1}}) || l[1].Name != "b" || string(l[0].Bytes) != "x" {
		t.Errorf("%v, %v, %d", l, x, e)
	}
}

func TestPutIsRead(t *testing.T) {
	r := rand.New(rand.NewSource(4))
	for range 500 {
		var l []api.Member
		var index []api.Indexed
		for k := range r.Intn(6) {
			b := make([]byte, r.Intn(9))
			r.Read(b)
			l = append(l, api.Member{Name: fmt.Sprint("m", k), Bytes: b})
		}
		for range r.Intn(1 + 3*len(l)) {
			index = append(index, api.Indexed{Name: strings.Repeat("s", 1+r.Intn(4)), Member: r.Intn(len(l))})
		}
		b, e := ar.Put(l, index)
		if e != api.OK {
			t.Fatal(e)
		}
		m, x, e := ar.Read(b)
		if e != api.OK || !slices.Equal(x, index) || !slices.EqualFunc(m, l, func(a, b api.Member) bool { return a.Name == b.Name && bytes.Equal(a.Bytes, b.Bytes) }) {
			t.Fatalf("%v, %v came back as %v, %v, %d", l, index, m, x, e)
		}
		for range 30 {
			c := slices.Clone(b)
			if len(c) > 8 {
				c[8+r.Intn(len(c)-8)] = byte(r.Intn(256))
			}
			ar.Read(c[:r.Intn(len(c)+1)])
			ar.Read(c)
		}
	}
}

func TestNewMemory(t *testing.T) {
	b := []byte(magic + head("a/", 1) + "x")
	l, _, _ := ar.Read(b)
	l[0].Bytes[0] = 'y'
	if !bytes.HasSuffix(b, []byte("x")) {
		t.Error("members share memory with the archive")
	}
}
