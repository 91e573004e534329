package syms_test

import (
	"fmt"
	"math/rand"
	"slices"
	"strings"
	"testing"

	"bulwark/api"
	"bulwark/syms"
)

// loaded makes objects of words: +x defines x, -x asks for it, ?x asks weakly, ~x defines weakly, =x is common, .x is local, :x local and undefined, ^x of bind 3, _x undefined of bind 3, *x weak and common.
func loaded(texts ...string) []api.Loaded {
	var l []api.Loaded
	for k, text := range texts {
		var o api.Object
		for _, w := range strings.Fields(text) {
			s := api.Symbol{Name: w[1:]}
			switch w[0] {
			case '+':
				s.Bind = 1
			case '-':
				s.Bind, s.In = 1, api.InNone
			case '?':
				s.Bind, s.In = 2, api.InNone
			case '~':
				s.Bind = 2
			case '=':
				s.Bind, s.In = 1, api.InCommon
			case ':':
				s.In = api.InNone
			case '^':
				s.Bind = 3
			case '_':
				s.Bind, s.In = 3, api.InNone
			case '*':
				s.Bind, s.In = 2, api.InCommon
			case '!':
				s.Bind, s.Hidden = 1, true
			}
			o.Symbols = append(o.Symbols, s)
		}
		l = append(l, api.Loaded{Name: fmt.Sprint("o", k), Object: o})
	}
	return l
}

func bound(name string, object, symbol, own int) api.Bound {
	return api.Bound{Name: name, Target: api.Target{Object: object, Symbol: symbol, Own: own}}
}

func TestTable(t *testing.T) {
	for name, c := range map[string]struct {
		l    []api.Loaded
		own  []string
		want []api.Bound
		bad  string
		e    api.Errno
	}{
		"none":                   {nil, nil, nil, "", api.OK},
		"own names alone":        {nil, []string{"switch"}, nil, "", api.OK},
		"in the order of bytes":  {loaded("+b +a0", "+Z +a"), nil, []api.Bound{bound("Z", 1, 0, -1), bound("a", 1, 1, -1), bound("a0", 0, 1, -1), bound("b", 0, 0, -1)}, "", api.OK},
		"locals are left out":    {loaded(".a :b", "?a"), nil, []api.Bound{bound("a", -1, 0, -1)}, "", api.OK},
		"asked and defined":      {loaded("-f", ".x +f", "-f"), nil, []api.Bound{bound("f", 1, 1, -1)}, "", api.OK},
		"global ahead of common": {loaded("=f", "~f", "+f"), nil, []api.Bound{bound("f", 2, 0, -1)}, "", api.OK},
		"common ahead of weak":   {loaded("~f", "=f", "=f"), nil, []api.Bound{bound("f", 1, 0, -1)}, "", api.OK},
		"a weak common one":      {loaded("~f", "*f"), nil, []api.Bound{bound("f", 1, 0, -1)}, "", api.OK},
		"the first weak one":     {loaded("?f", "~f", "~f"), nil, []api.Bound{bound("f", 1, 0, -1)}, "", api.OK},
		"a bind that is none":    {loaded("-f", "^f", "~f"), nil, []api.Bound{bound("f", 1, 0, -1)}, "", api.OK},
		"global ahead of bind 3": {loaded("^f", "+f"), nil, []api.Bound{bound("f", 1, 0, -1)}, "", api.OK},
		"undefined, of bind 3":   {loaded("_f"), nil, []api.Bound{bound("f", -1, 0, -1)}, "", api.OK},
		"twice":                  {loaded("+g +f", "+g", "+f"), nil, nil, "f", api.ErrTwice},
		"twice in one object":    {loaded("+f +f"), nil, nil, "f", api.ErrTwice},
		"twice common":           {loaded("=f", "=f +g"), nil, []api.Bound{bound("f", 0, 0, -1), bound("g", 1, 1, -1)}, "", api.OK},
		"hidden ones are others": {loaded("!f", "+f"), nil, nil, "f", api.ErrTwice},
		"hidden ones are found":  {loaded("!f", "-f"), nil, []api.Bound{bound("f", 0, 0, -1)}, "", api.OK},
		"undefined":              {loaded("-g -f ?a"), nil, nil, "f", api.ErrNone},
		"twice ahead of none":    {loaded("-a +z", "+z"), nil, nil, "z", api.ErrTwice},
		"the linker's":           {loaded("-switch ?d", "-d"), []string{"switch", "d", "switch"}, []api.Bound{bound("d", -1, 0, 1), bound("switch", -1, 0, 0)}, "", api.OK},
		"the linker's, twice":    {loaded("-d"), []string{"x", "d", "d"}, []api.Bound{bound("d", -1, 0, 1)}, "", api.OK},
		"objects' ahead of it":   {loaded("~d", "-d"), []string{"d"}, []api.Bound{bound("d", 0, 0, -1)}, "", api.OK},
		"weak, and nobody's":     {loaded("?f", "?f"), []string{"d"}, []api.Bound{bound("f", -1, 0, -1)}, "", api.OK},
		"weak and global ask":    {loaded("?f", "-f"), nil, nil, "f", api.ErrNone},
	} {
		got, bad, e := syms.Table(c.l, c.own)
		if !slices.Equal(got, c.want) || bad != c.bad || e != c.e {
			t.Errorf("%s: %v, %q, %d", name, got, bad, e)
		}
	}
}

func TestOf(t *testing.T) {
	l := loaded(".a -f ?w", "+f -switch .f :u")
	table, _, e := syms.Table(l, []string{"switch"})
	if e != api.OK {
		t.Fatal(e)
	}
	for _, c := range []struct {
		o, s int
		want api.Target
		ok   bool
	}{
		{0, 0, api.Target{Own: -1}, true},
		{0, 1, api.Target{Object: 1, Own: -1}, true},
		{0, 2, api.Target{Object: -1, Own: -1}, true},
		{1, 0, api.Target{Object: 1, Own: -1}, true},
		{1, 1, api.Target{Object: -1, Own: 0}, true},
		{1, 2, api.Target{Object: 1, Symbol: 2, Own: -1}, true},
		{1, 3, api.Target{Object: 1, Symbol: 3, Own: -1}, true},
		{0, 3, api.Target{}, false}, {0, -1, api.Target{}, false}, {2, 0, api.Target{}, false}, {-1, 0, api.Target{}, false},
	} {
		if got, ok := syms.Of(table, l, c.o, c.s); got != c.want || ok != c.ok {
			t.Errorf("Of(%d, %d) = %v, %v", c.o, c.s, got, ok)
		}
	}
	if got, ok := syms.Of(nil, l, 0, 1); got != (api.Target{}) || ok {
		t.Errorf("a table without the name: %v", got)
	}
	if got, ok := syms.Of(nil, l, 0, 0); got != (api.Target{Own: -1}) || !ok {
		t.Errorf("a local one: %v", got)
	}
	if _, ok := syms.Of(table, nil, 0, 0); ok {
		t.Error("of none")
	}
}

func TestOwn(t *testing.T) {
	p := api.Plan{
		Shares: []api.Share{{Name: "pool"}, {Name: "log"}},
		Compartments: []api.Compartment{
			{Name: "a"},
			{Name: "b", Imports: []api.Import{{From: 0, Name: "f"}, {From: 1, Name: "g"}, {From: 2, Name: "h"}, {From: -1, Name: "i"}}, Devices: []api.Device{{Name: "led"}, {Name: "clock"}}, Gives: []api.Give{{Share: 1}, {Share: 0}, {Share: 2}, {Share: -1}}},
		},
	}
	for c, want := range map[int]string{
		0: "switch", -1: "", 2: "",
		1: "switch import.a.f import.b.g import..h import..i device.led device.clock share.log share.pool share. share.",
	} {
		if got := strings.Join(syms.Own(p, c), " "); got != want {
			t.Errorf("Own(%d) = %s", c, got)
		}
	}
	if len(syms.Own(api.Plan{}, 0)) != 0 {
		t.Error("of an empty plan")
	}
}

// In whatever order objects stand, a name is the same symbol's, if no two define one as common or weak.
func TestOrder(t *testing.T) {
	r := rand.New(rand.NewSource(6))
	objects := []string{"+a -b ?z -m", "+b .a -c", "=c -a", "~d -d ?b", "+e ?d -switch", "~e -e =f", "-f +m"}
	named := func(l []api.Loaded) map[string]string {
		table, _, e := syms.Table(l, []string{"switch"})
		if e != api.OK {
			t.Fatal(e)
		}
		said := map[string]string{}
		for _, b := range table {
			whose := fmt.Sprint("own ", b.Target.Own)
			if b.Target.Object >= 0 {
				whose = fmt.Sprint(l[b.Target.Object].Name, b.Target.Symbol)
			}
			said[b.Name] = whose
		}
		return said
	}
	l := loaded(objects...)
	want := named(l)
	for range 50 {
		other := slices.Clone(l)
		r.Shuffle(len(other), func(i, j int) { other[i], other[j] = other[j], other[i] })
		if got := named(other); fmt.Sprint(got) != fmt.Sprint(want) {
			t.Fatalf("%v, %v", got, want)
		}
	}
}
