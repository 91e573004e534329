package tables_test

import (
	"math"
	"slices"
	"testing"

	"bulwark/api"
	"bulwark/bounds"
	"bulwark/capa"
	"bulwark/tables"
)

// world is a plan, and its regions.
func world() (api.Plan, []api.Region) {
	p := api.Plan{
		Shares: []api.Share{{Name: "r", N: 100}, {Name: "s", N: 8}},
		Compartments: []api.Compartment{
			{Name: "a", Exports: []api.Export{{Name: "x"}}, Imports: []api.Import{{From: 1, Name: "g"}, {From: 0, Name: "x"}, {From: 1, Name: "f"}}, Devices: []api.Device{{Name: "d", At: 65280, N: 8}, {Name: "e", At: 65284, N: 252}}, Gives: []api.Give{{Share: 1}, {Share: 0, Write: true}}},
			{Name: "b", Exports: []api.Export{{Name: "f"}, {Name: "g"}}},
		},
	}
	return p, []api.Region{
		{Kind: api.RegSwitch, Owner: -1, At: 64, N: 704}, {Kind: api.RegTrusted, Owner: -1, At: 768, N: 96}, {Kind: api.RegStack, Owner: -1, At: 864, N: 512},
		{Kind: api.RegShare, Owner: 0, At: 1376, N: 104}, {Kind: api.RegShare, Owner: 1, At: 1480, N: 8},
		{Kind: api.RegExports, Owner: 0, At: 1488, N: 24}, {Kind: api.RegCode, Owner: 0, At: 1512, N: 88}, {Kind: api.RegData, Owner: 0, At: 1600, N: 104},
		{Kind: api.RegExports, Owner: 1, At: 1704, N: 48}, {Kind: api.RegCode, Owner: 1, At: 1752, N: 8}, {Kind: api.RegData, Owner: 1, At: 1760, N: 0},
	}
}

func root(t *testing.T, base, top uint64, perms uint8) api.Cap {
	t.Helper()
	c, e := capa.Root(base, top, perms)
	if e != api.OK {
		t.Fatalf("Root(%d, %d): %d", base, top, e)
	}
	return c
}

func TestRegion(t *testing.T) {
	_, regions := world()
	regions = append(regions, api.Region{Kind: api.RegShare, Owner: 1, At: 9000, N: 8})
	for _, want := range regions[:11] {
		if r, ok := tables.Region(regions, want.Kind, want.Owner); r != want || !ok {
			t.Errorf("%v: %v, %v", want, r, ok)
		}
	}
	for _, l := range [][]api.Region{nil, regions} {
		if r, ok := tables.Region(l, api.RegCode, 2); r != (api.Region{}) || ok {
			t.Errorf("%v", r)
		}
	}
}

func TestCap(t *testing.T) {
	for _, c := range []struct {
		r    api.Region
		addr uint32
		e    api.Errno
	}{
		{api.Region{At: 64, N: 104}, 64, api.OK}, {api.Region{At: 64, N: 104}, 168, api.OK}, {api.Region{At: 64, N: 104}, 63, api.ErrArg}, {api.Region{At: 64, N: 104}, 300, api.OK}, {api.Region{At: 64, N: 104}, 64 + 512, api.ErrArg},
		{api.Region{At: 65, N: 1000}, 65, api.ErrForm}, {api.Region{At: 65, N: 1000}, 0, api.ErrForm}, {api.Region{At: 65000, N: 1000}, 65000, api.ErrForm}, {api.Region{At: math.MaxUint32, N: math.MaxUint32}, 0, api.ErrForm},
		{api.Region{At: 8, N: 0}, 8, api.OK}, {api.Region{At: 65024, N: 512}, 65536, api.OK},
	} {
		got, e := tables.Cap(c.r, 23, c.addr)
		want := api.Cap{}
		if c.e == api.OK {
			want = root(t, uint64(c.r.At), uint64(c.r.At+c.r.N), 23)
			want.Addr = c.addr
		}
		if got != want || e != c.e {
			t.Errorf("Cap(%v, %d) = %v, %d", c.r, c.addr, got, e)
		}
	}
	if c, _ := tables.Cap(api.Region{At: 64, N: 104}, 23, 64); capa.Top(c) != 168 {
		t.Error("the chapter's example")
	}
}

func TestEntry(t *testing.T) {
	_, regions := world()
	fills, word, e := tables.Entry(regions, 0, 1544, 5, 512)
	sentry := root(t, 1512, 1600, 29)
	sentry.Addr, sentry.Type = 1544, api.SentryOn
	want := []api.Fill{{At: 0, Cap: sentry}, {At: 8, Cap: root(t, 1600, 1704, 23)}}
	if !slices.Equal(fills, want) || word != 5+256*512 || e != api.OK {
		t.Errorf("%v, %d, %d", fills, word, e)
	}
	without := func(kind uint8) []api.Region {
		return slices.DeleteFunc(slices.Clone(regions), func(r api.Region) bool { return r.Kind == kind && r.Owner == 0 })
	}
	odd := func(kind uint8) []api.Region {
		l := slices.Clone(regions)
		k := slices.IndexFunc(l, func(r api.Region) bool { return r.Kind == kind && r.Owner == 0 })
		l[k].At, l[k].N = 1001, 1001
		return l
	}
	for name, c := range map[string]struct {
		regions     []api.Region
		c           int
		at          uint32
		args, stack int
		want        api.Errno
	}{
		"the first place":        {regions, 0, 1512, 0, 0, api.OK},
		"the last place":         {regions, 0, 1599, 6, 4088, api.OK},
		"no four":                {regions, 0, 1513, 6, 3, api.OK},
		"ahead":                  {regions, 0, 1511, 0, 0, api.ErrArg},
		"behind":                 {regions, 0, 1600, 0, 0, api.ErrArg},
		"far behind":             {regions, 0, math.MaxUint32, 0, 0, api.ErrArg},
		"7 arguments":            {regions, 0, 1512, 7, 0, api.ErrArg},
		"-1 arguments":           {regions, 0, 1512, -1, 0, api.ErrArg},
		"too much stack":         {regions, 0, 1512, 0, 4089, api.ErrArg},
		"stack -1":               {regions, 0, 1512, 0, -1, api.ErrArg},
		"huge":                   {regions, 0, 1512, math.MinInt, math.MaxInt, api.ErrArg},
		"nobody":                 {regions, 2, 1512, 0, 0, api.ErrNone},
		"-1":                     {regions, -1, 1512, 0, 0, api.ErrNone},
		"no code":                {without(api.RegCode), 0, 1512, 0, 0, api.ErrNone},
		"no globals":             {without(api.RegData), 0, 1512, 0, 0, api.ErrNone},
		"code not exact":         {odd(api.RegCode), 0, 1001, 0, 0, api.ErrForm},
		"globals not exact":      {odd(api.RegData), 0, 1512, 0, 0, api.ErrForm},
		"form ahead of argument": {odd(api.RegData), 0, 1, 9, 9999, api.ErrForm},
		"none ahead of argument": {nil, 0, 1, 9, 9999, api.ErrNone},
	} {
		fills, word, e := tables.Entry(c.regions, c.c, c.at, c.args, c.stack)
		if e != c.want || e != api.OK && (len(fills) != 0 || word != 0) {
			t.Errorf("%s: %v, %d, %d", name, fills, word, e)
		}
	}
}

func TestSlots(t *testing.T) {
	p, regions := world()
	sealed := func(c api.Cap, kind uint8) api.Cap { c.Type = kind; return c }
	want := []api.Cap{
		sealed(root(t, 64, 768, 88), api.SentryOff),
		sealed(root(t, 1728, 1752, 21), api.SealExport), sealed(root(t, 1488, 1512, 21), api.SealExport), sealed(root(t, 1704, 1728, 21), api.SealExport),
		root(t, 65280, 65288, 19), root(t, 65284, 65536, 19),
		root(t, 1480, 1488, 17), root(t, 1376, 1480, 19),
	}
	if got, e := tables.Slots(p, regions, 0); !slices.Equal(got, want) || e != api.OK {
		t.Errorf("%v, %d", got, e)
	}
	if got, e := tables.Slots(p, regions, 1); !slices.Equal(got, want[:1]) || e != api.OK {
		t.Errorf("%v, %d", got, e)
	}
}

func TestSlotsRefuse(t *testing.T) {
	for name, c := range map[string]struct {
		change func(p *api.Plan, l []api.Region) []api.Region
		c      int
		want   api.Errno
	}{
		"nobody":             {func(p *api.Plan, l []api.Region) []api.Region { return l }, 2, api.ErrNone},
		"-1":                 {func(p *api.Plan, l []api.Region) []api.Region { return l }, -1, api.ErrNone},
		"no regions":         {func(p *api.Plan, l []api.Region) []api.Region { return nil }, 0, api.ErrNone},
		"no switcher":        {func(p *api.Plan, l []api.Region) []api.Region { return l[1:] }, 0, api.ErrNone},
		"no share":           {func(p *api.Plan, l []api.Region) []api.Region { return slices.Delete(l, 4, 5) }, 0, api.ErrNone},
		"no exports":         {func(p *api.Plan, l []api.Region) []api.Region { return slices.Delete(l, 8, 9) }, 0, api.ErrNone},
		"no export":          {func(p *api.Plan, l []api.Region) []api.Region { p.Compartments[1].Exports[1].Name = "h"; return l }, 0, api.ErrNone},
		"import from nobody": {func(p *api.Plan, l []api.Region) []api.Region { p.Compartments[0].Imports[1].From = 2; return l }, 0, api.ErrNone},
		"import from -1":     {func(p *api.Plan, l []api.Region) []api.Region { p.Compartments[0].Imports[1].From = -1; return l }, 0, api.ErrNone},
		"share -1":           {func(p *api.Plan, l []api.Region) []api.Region { p.Compartments[0].Gives[0].Share = -1; return l }, 0, api.ErrNone},
		"switcher not exact": {func(p *api.Plan, l []api.Region) []api.Region {
			l[0] = api.Region{Kind: 1, Owner: -1, At: 1, N: 1000}
			return l
		}, 0, api.ErrForm},
		"share not exact":   {func(p *api.Plan, l []api.Region) []api.Region { l[3].At, l[3].N = 1, 1000; return l }, 0, api.ErrForm},
		"a share not given": {func(p *api.Plan, l []api.Region) []api.Region { l[3].At, l[3].N = 1, 1000; return l }, 1, api.OK},
		"exports not exact": {func(p *api.Plan, l []api.Region) []api.Region { l[8].N = 9999; return l }, 0, api.OK},
		"exports far away":  {func(p *api.Plan, l []api.Region) []api.Region { l[8].At = math.MaxUint32 - 8; return l }, 0, api.ErrForm},
		"a device not exact": {func(p *api.Plan, l []api.Region) []api.Region {
			p.Compartments[0].Devices[0] = api.Device{At: 1, N: 999}
			return l
		}, 0, api.ErrForm},
		"none ahead of form": {func(p *api.Plan, l []api.Region) []api.Region {
			l[0].At, l[0].N = 1, 1000
			return slices.Delete(l, 4, 5)
		}, 0, api.ErrNone},
	} {
		p, regions := world()
		regions = c.change(&p, regions)
		got, e := tables.Slots(p, regions, c.c)
		if e != c.want || e != api.OK && len(got) != 0 {
			t.Errorf("%s: %v, %d", name, got, e)
		}
	}
}

func TestDevice(t *testing.T) {
	if c, e := tables.Device(api.Device{Name: "d", At: 65280, N: 8}); c != root(t, 65280, 65288, 19) || e != api.OK || c.Type != 0 || c.Perms != 19 {
		t.Errorf("%v, %d", c, e)
	}
	for _, d := range []api.Device{{At: 1, N: 600}, {At: 65280, N: 260}, {At: math.MaxUint32, N: math.MaxUint32}} {
		if c, e := tables.Device(d); c != (api.Cap{}) || e != api.ErrForm {
			t.Errorf("%v: %v, %d", d, c, e)
		}
	}
}

// No slot but the first may be jumped to; none but it, and sealed ones, reaches another compartment's bytes.
func TestWhatFollows(t *testing.T) {
	p, regions := world()
	for c := range p.Compartments {
		slots, e := tables.Slots(p, regions, c)
		if e != api.OK {
			t.Fatal(e)
		}
		for k, s := range slots {
			if k > 0 && s.Perms&api.PermExec != 0 || s.Perms&api.PermExec != 0 && s.Perms&api.PermStore != 0 || s.Perms&api.PermGlobal == 0 {
				t.Errorf("slot %d of %d: %v", k, c, s)
			}
			if k == 0 || s.Type == api.SealExport {
				continue
			}
			for _, r := range regions {
				others := r.Kind >= api.RegExports || r.Kind <= api.RegStack
				for at := uint64(r.At); others && at < uint64(r.At+r.N); at++ {
					if bounds.Within(s.Bounds, s.Addr, at, 1) {
						t.Fatalf("slot %d of %d reaches %d", k, c, at)
					}
				}
			}
		}
		code, _ := tables.Region(regions, api.RegCode, c)
		fills, _, e := tables.Entry(regions, c, code.At, 0, 0)
		if e != api.OK || fills[0].Cap.Perms&api.PermStore != 0 || fills[1].Cap.Perms&api.PermExec != 0 {
			t.Errorf("%v, %d", fills, e)
		}
	}
}
