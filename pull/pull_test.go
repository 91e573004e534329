package pull_test

import (
	"fmt"
	"math/rand"
	"slices"
	"strings"
	"testing"

	"bulwark/api"
	"bulwark/ar"
	"bulwark/elf"
	"bulwark/pull"
)

// object makes an object of words: +x defines x, -x asks for it, ?x asks weakly, ~x defines weakly, =x is common, .x is local, :x local and undefined.
func object(t *testing.T, words string) api.Object {
	t.Helper()
	o := api.Object{Sections: []api.Section{{Name: ".text", Kind: 1, Flags: 6, Align: 4, Size: 4, Bytes: make([]byte, 4)}}}
	var rest []api.Symbol
	for _, w := range strings.Fields(words) {
		s := api.Symbol{Name: w[1:]}
		switch w[0] {
		case '+':
			s.Bind = 1
		case '-':
			s.Bind, s.In = 1, api.InNone
		case '?':
			s.Bind, s.In = 2, api.InNone
		case '~':
			s.Bind = 2
		case '=':
			s.Bind, s.In = 1, api.InCommon
		case '%':
			s.Bind, s.In = 1, api.InAbs
		case ':':
			s.In = api.InNone
		}
		if s.Bind == 0 {
			o.Symbols = append(o.Symbols, s)
		} else {
			rest = append(rest, s)
		}
	}
	o.Symbols = append(o.Symbols, rest...)
	return o
}

func bytesOf(t *testing.T, words string) []byte {
	t.Helper()
	b, e := elf.Put(object(t, words))
	if e != api.OK {
		t.Fatalf("%q: %d", words, e)
	}
	return b
}

func file(t *testing.T, name, words string) api.Input {
	return api.Input{Name: name, Bytes: bytesOf(t, words)}
}

// archive makes one of members "name: words", and of an index "symbol=name".
func archive(t *testing.T, name, index string, members ...string) api.Input {
	t.Helper()
	var l []api.Member
	numbers := map[string]int{}
	for k, m := range members {
		n, words, _ := strings.Cut(m, ":")
		numbers[n] = k
		b := []byte("broken")
		if words != "!" {
			b = bytesOf(t, words)
		}
		l = append(l, api.Member{Name: n, Bytes: b})
	}
	var x []api.Indexed
	for _, w := range strings.Fields(index) {
		s, m, _ := strings.Cut(w, "=")
		x = append(x, api.Indexed{Name: s, Member: numbers[m]})
	}
	b, e := ar.Put(l, x)
	if e != api.OK {
		t.Fatalf("%s: %d", name, e)
	}
	return api.Input{Name: name, Bytes: b, Archive: true}
}

func names(l []api.Loaded) string {
	var n []string
	for _, x := range l {
		n = append(n, x.Name)
	}
	return strings.Join(n, " ")
}

func TestAll(t *testing.T) {
	for name, c := range map[string]struct {
		l    []api.Input
		want string
	}{
		"none":                     {nil, ""},
		"nothing is wanted":        {[]api.Input{archive(t, "l", "f=m", "m:+f"), file(t, "a", "+f")}, "a"},
		"objects first":            {[]api.Input{archive(t, "l", "f=m", "m:+f"), file(t, "b", "-f"), file(t, "a", "-g")}, "b a l/m"},
		"weak ones do not ask":     {[]api.Input{file(t, "a", "?f"), archive(t, "l", "f=m", "m:+f")}, "a"},
		"local ones do not ask":    {[]api.Input{file(t, "a", ":f"), archive(t, "l", "f=m", "m:+f")}, "a"},
		"local ones define not":    {[]api.Input{file(t, "a", ".f"), file(t, "b", "-f"), archive(t, "l", "f=m", "m:+f")}, "a b l/m"},
		"weak ones define":         {[]api.Input{file(t, "a", "-f"), file(t, "b", "~f"), archive(t, "l", "f=m", "m:+f")}, "a b"},
		"common ones define":       {[]api.Input{file(t, "a", "-f"), file(t, "b", "=f"), archive(t, "l", "f=m", "m:+f")}, "a b"},
		"absolute ones define":     {[]api.Input{file(t, "a", "-f"), file(t, "b", "%f"), archive(t, "l", "f=m", "m:+f")}, "a b"},
		"one asks for another":     {[]api.Input{file(t, "a", "-f"), archive(t, "l", "g=n f=m", "m:+f -g", "n:+g")}, "a l/m l/n"},
		"the least symbol":         {[]api.Input{file(t, "a", "-f -g"), archive(t, "l", "g=n f=m", "m:+f", "n:+g")}, "a l/m l/n"},
		"byte by byte":             {[]api.Input{file(t, "a", "-f -Z -f0"), archive(t, "l", "f=m f0=o Z=n", "m:+f", "n:+Z", "o:+f0")}, "a l/n l/m l/o"},
		"the first row":            {[]api.Input{file(t, "a", "-f"), archive(t, "l", "f=n f=m", "m:+f", "n:+f")}, "a l/n"},
		"a row that is not so":     {[]api.Input{file(t, "a", "-f"), archive(t, "l", "f=n f=m", "m:+f", "n:+g")}, "a l/n l/m"},
		"rows that are never so":   {[]api.Input{file(t, "a", "-f"), archive(t, "l", "f=n", "n:-f")}, "a l/n"},
		"the first archive":        {[]api.Input{file(t, "a", "-f"), archive(t, "k", "f=m", "m:+f"), archive(t, "l", "f=m", "m:+f")}, "a k/m"},
		"first archive first":      {[]api.Input{file(t, "a", "-f -g"), archive(t, "k", "g=m", "m:+g"), archive(t, "l", "f=m", "m:+f")}, "a k/m l/m"},
		"asked anew":               {[]api.Input{file(t, "a", "-f"), archive(t, "k", "g=m", "m:+g"), archive(t, "l", "f=m h=o", "m:+f -g -h", "o:+h")}, "a l/m k/m l/o"},
		"a least one that comes":   {[]api.Input{file(t, "a", "-m -z"), archive(t, "l", "z=z m=m b=b", "m:+m -b", "b:+b", "z:+z")}, "a l/m l/b l/z"},
		"not without an index":     {[]api.Input{file(t, "a", "-f"), archive(t, "l", "", "m:+f")}, "a"},
		"a broken one, not wanted": {[]api.Input{file(t, "a", ""), archive(t, "l", "f=m", "m:!")}, "a"},
		"no objects":               {[]api.Input{archive(t, "l", "f=m", "m:+f")}, ""},
		"one archive twice":        {[]api.Input{file(t, "a", "-f"), archive(t, "l", "f=m", "m:-g"), archive(t, "l", "f=m", "m:+f")}, "a l/m l/m"},
	} {
		l, e := pull.All(c.l)
		if names(l) != c.want || e != api.OK {
			t.Errorf("%s: %s, %d", name, names(l), e)
		}
	}
}

func TestLoadedObjects(t *testing.T) {
	l, e := pull.All([]api.Input{file(t, "a", "-f .x"), archive(t, "l", "f=m", "m:+f ?y")})
	if e != api.OK || len(l) != 2 || !elf.Same(l[0].Object, object(t, "-f .x")) || !elf.Same(l[1].Object, object(t, "+f ?y")) {
		t.Errorf("%+v, %d", l, e)
	}
}

func many(t *testing.T, n int) []api.Input {
	var l []api.Input
	for k := range n {
		l = append(l, file(t, fmt.Sprint("o", k), "-f"))
	}
	return l
}

func TestErrors(t *testing.T) {
	broken := api.Input{Name: "x", Bytes: []byte(strings.Repeat("x", 52))}
	badArchive := api.Input{Name: "y", Bytes: []byte("!<arcx>\n"), Archive: true}
	for name, c := range map[string]struct {
		l    []api.Input
		want api.Errno
	}{
		"an object of no bytes":      {[]api.Input{{}}, api.ErrShort},
		"an archive of no bytes":     {[]api.Input{{Archive: true}}, api.ErrShort},
		"too long an object":         {[]api.Input{{Bytes: make([]byte, 65537)}}, api.ErrLimit},
		"too long an archive":        {[]api.Input{{Bytes: make([]byte, 65537), Archive: true}}, api.ErrLimit},
		"an archive as an object":    {[]api.Input{{Bytes: archive(t, "l", "", "m:").Bytes}}, api.ErrShort},
		"an object as an archive":    {[]api.Input{{Bytes: bytesOf(t, ""), Archive: true}}, api.ErrForm},
		"the first error":            {[]api.Input{{}, badArchive}, api.ErrShort},
		"the first error again":      {[]api.Input{badArchive, {}}, api.ErrForm},
		"inputs ahead of members":    {[]api.Input{file(t, "a", "-f"), archive(t, "l", "f=m", "m:!"), badArchive}, api.ErrForm},
		"a member that is pulled in": {[]api.Input{file(t, "a", "-f"), archive(t, "l", "f=m", "m:!")}, api.ErrShort},
		"32 objects":                 {many(t, 32), api.OK},
		"33 objects":                 {many(t, 33), api.ErrLimit},
		"33 objects, one is broken":  {append(many(t, 33), broken), api.ErrShort},
		"31 objects and a member":    {append(many(t, 31), archive(t, "l", "f=m", "m:+f")), api.OK},
		"32 objects and a member":    {append(many(t, 32), archive(t, "l", "f=m", "m:+f")), api.ErrLimit},
		"32, and a broken member":    {append(many(t, 32), archive(t, "l", "f=m", "m:!")), api.ErrShort},
		"32, and a needless member":  {append(many(t, 32), archive(t, "l", "g=m", "m:+g")), api.OK},
	} {
		l, e := pull.All(c.l)
		if e != c.want || e != api.OK && len(l) != 0 {
			t.Errorf("%s: %s, %d", name, names(l), e)
		}
	}
}

func TestWanted(t *testing.T) {
	for _, c := range []struct{ words, want string }{
		{"", ""}, {"-g -f", "f g"}, {"-f|-f", "f"}, {"-f|+f", ""}, {"-f|~f", ""}, {"-f|=f", ""}, {"-f|.f", "f"}, {"?f", ""}, {":f", ""}, {"-f|?f", "f"}, {"-b -a0 -a -Z", "Z a a0 b"},
	} {
		var l []api.Loaded
		for _, w := range strings.Split(c.words, "|") {
			l = append(l, api.Loaded{Object: object(t, w)})
		}
		if got := strings.Join(pull.Wanted(l), " "); got != c.want {
			t.Errorf("Wanted of %q: %q", c.words, got)
		}
	}
	if len(pull.Wanted(nil)) != 0 {
		t.Error("of none")
	}
}

// Of whatever archives: it ends, nothing is in that nobody wanted, and with all as objects nothing more comes.
func TestNoMoreThanIsAskedFor(t *testing.T) {
	r := rand.New(rand.NewSource(9))
	words := func() string {
		var l []string
		for range r.Intn(4) {
			l = append(l, string("+-?~="[r.Intn(5)])+string(rune('a'+r.Intn(8))))
		}
		slices.Sort(l)
		return strings.Join(slices.Compact(l), " ")
	}
	for range 200 {
		l := []api.Input{file(t, "o", words()+" -a")}
		indexed, truthful := map[string][]string{}, true
		for k := range 1 + r.Intn(3) {
			var members, index []string
			for m := range 1 + r.Intn(5) {
				w := words()
				members = append(members, fmt.Sprintf("m%d:%s", m, w))
				for _, x := range strings.Fields(w) {
					if x[0] != '-' && x[0] != '?' || r.Intn(8) == 0 {
						truthful = truthful && x[0] != '-' && x[0] != '?'
						index = append(index, fmt.Sprintf("%s=m%d", x[1:], m))
						n := fmt.Sprintf("l%d/m%d", k, m)
						indexed[n] = append(indexed[n], x[1:])
					}
				}
			}
			l = append(l, archive(t, fmt.Sprint("l", k), strings.Join(index, " "), members...))
		}
		in, e := pull.All(l)
		if e != api.OK {
			t.Fatal(e)
		}
		var again []api.Input
		for k, x := range in {
			if k > 0 && !slices.ContainsFunc(indexed[x.Name], func(s string) bool { return slices.Contains(pull.Wanted(in[:k]), s) }) {
				t.Fatalf("%s: nobody wanted it", x.Name)
			}
			b, _ := elf.Put(x.Object)
			again = append(again, api.Input{Name: x.Name, Bytes: b})
		}
		if more, e := pull.All(append(again, l[1:]...)); e != api.OK || truthful && names(more) != names(in) {
			t.Fatalf("%s, then %s, %d", names(in), names(more), e)
		}
	}
}
