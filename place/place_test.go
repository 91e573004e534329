package place_test

import (
	"fmt"
	"math"
	"math/rand"
	"slices"
	"testing"

	"bulwark/api"
	"bulwark/bounds"
	"bulwark/place"
)

func TestRoom(t *testing.T) {
	for _, c := range []struct {
		n    int
		e    uint8
		size int
		ok   bool
	}{
		{0, 3, 0, true}, {1, 3, 8, true}, {8, 3, 8, true}, {9, 3, 16, true}, {4088, 3, 4088, true}, {4089, 4, 4096, true}, {8176, 4, 8176, true}, {8177, 5, 8192, true},
		{65536, 8, 65536, true}, {65408, 7, 65408, true}, {65409, 8, 65536, true}, {511 * 256, 8, 511 * 256, true}, {511*256 + 1, 0, 0, false}, {-1, 0, 0, false},
		{math.MaxInt, 0, 0, false}, {math.MinInt, 0, 0, false},
	} {
		if e, size, ok := place.Room(c.n); e != c.e || size != c.size || ok != c.ok {
			t.Errorf("Room(%d) = %d, %d, %v", c.n, e, size, ok)
		}
	}
	for n := range 131000 {
		least := -1
		for e := 8; e >= 3; e-- {
			if p := 1 << e; (n+p-1)/p <= 511 {
				least = e
			}
		}
		e, size, ok := place.Room(n)
		want := 0
		if least >= 0 {
			want = (n + 1<<least - 1) >> least << least
		}
		if ok != (least >= 0) || ok && int(e) != least || size != want {
			t.Fatalf("Room(%d) = %d, %d, %v", n, e, size, ok)
		}
	}
}

func TestNext(t *testing.T) {
	for _, c := range []struct {
		at, n, align, from, size int
		ok                       bool
	}{
		{64, 100, 8, 64, 104, true}, {65, 4100, 8, 80, 4112, true}, {65, 8, 64, 128, 8, true}, {65279, 8, 8, 0, 0, false},
		{65, 8, 1, 72, 8, true}, {65, 8, 256, 256, 8, true}, {65, 8, 512, 0, 0, false}, {65, 8, 0, 0, 0, false}, {65, 8, 3, 0, 0, false}, {65, 8, -8, 0, 0, false}, {65, 8, math.MinInt, 0, 0, false},
		{-1, 8, 8, 0, 0, false}, {0, -1, 8, 0, 0, false}, {0, 0, 8, 0, 0, true}, {65272, 8, 8, 65272, 8, true}, {65280, 0, 8, 65280, 0, true}, {65281, 0, 8, 0, 0, false},
		{math.MaxInt, 8, 8, 0, 0, false}, {0, math.MaxInt, 8, 0, 0, false}, {0, 65280, 8, 0, 65280, true}, {1, 65024, 8, 128, 65024, true}, {129, 65024, 8, 256, 65024, true}, {257, 65024, 8, 0, 0, false}, {0, 65281, 8, 0, 0, false},
	} {
		if from, size, ok := place.Next(c.at, c.n, c.align); from != c.from || size != c.size || ok != c.ok {
			t.Errorf("Next(%d, %d, %d) = %d, %d, %v", c.at, c.n, c.align, from, size, ok)
		}
	}
}

func section(kind, flags, align, size uint32) api.Section {
	s := api.Section{Kind: kind, Flags: flags, Align: align, Size: size}
	if kind == 1 {
		s.Bytes = make([]byte, size)
	}
	return s
}

func common(name string, size uint32, bind uint8) api.Symbol {
	return api.Symbol{Name: name, Size: size, Bind: bind, In: api.InCommon}
}

// world is a plan of two compartments, and their parts.
func world() (api.Plan, []api.Part) {
	p := api.Plan{
		Stack: 512, Trusted: 3, Shares: []api.Share{{Name: "r", N: 100}, {Name: "s", N: 1}},
		Compartments: []api.Compartment{
			{Name: "a", Exports: make([]api.Export, 2), Imports: make([]api.Import, 1), Devices: make([]api.Device, 1), Gives: make([]api.Give, 1)},
			{Name: "b"},
		},
	}
	one := api.Object{
		Sections: []api.Section{section(1, 6, 4, 5), section(1, 3, 4, 9), section(1, 2, 64, 12), section(1, 0, 8, 100), section(8, 3, 16, 20), section(8, 0, 8, 100), section(8, 2, 1, 3), section(1, 1, 8, 50)},
		Symbols:  []api.Symbol{common("z", 12, 1), common("y", 4, 2), common("l", 99, 0)},
	}
	two := api.Object{
		Sections: []api.Section{section(1, 7, 1, 2), section(1, 6, 1, 3)},
		Symbols:  []api.Symbol{common("z", 40, 1), {Name: "x", Bind: 1, In: 0}},
	}
	a := api.Part{
		Loaded: []api.Loaded{{Object: one}, {Object: two}},
		Bounds: []api.Bound{{Name: "w", Target: api.Target{Object: -1, Own: -1}}, {Name: "x", Target: api.Target{Object: 1, Symbol: 1, Own: -1}}, {Name: "y", Target: api.Target{Symbol: 1, Own: -1}}, {Name: "z", Target: api.Target{Own: -1}}},
	}
	return p, []api.Part{a, {}}
}

func TestAll(t *testing.T) {
	p, parts := world()
	regions, spots, e := place.All(p, 100, parts)
	// The code of a: 4 slots (32), 5 at 32, 12 at 64, 3 at 80. Its globals: 9 at 0, 20 at 16, 3 at 40, 2 at 48, y 4 at 56, z 40 at 64.
	want := []api.Region{
		{Kind: api.RegSwitch, Owner: -1, At: 64, N: 104}, {Kind: api.RegTrusted, Owner: -1, At: 168, N: 96}, {Kind: api.RegStack, Owner: -1, At: 264, N: 512},
		{Kind: api.RegShare, Owner: 0, At: 776, N: 104}, {Kind: api.RegShare, Owner: 1, At: 880, N: 8},
		{Kind: api.RegExports, Owner: 0, At: 888, N: 48}, {Kind: api.RegCode, Owner: 0, At: 960, N: 88}, {Kind: api.RegData, Owner: 0, At: 1056, N: 104},
		{Kind: api.RegExports, Owner: 1, At: 1160, N: 0}, {Kind: api.RegCode, Owner: 1, At: 1160, N: 8}, {Kind: api.RegData, Owner: 1, At: 1168, N: 0},
	}
	if e != api.OK || !slices.Equal(regions, want) {
		t.Errorf("%v, %d", regions, e)
	}
	wantSpots := []api.Spot{
		{Object: 0, Section: 0, At: 992}, {Object: 0, Section: 2, At: 1024}, {Object: 1, Section: 1, At: 1040},
		{Object: 0, Section: 1, At: 1056}, {Object: 0, Section: 4, At: 1072}, {Object: 0, Section: 6, At: 1096}, {Object: 1, Section: 0, At: 1104},
		{Object: -1, Name: "y", At: 1112}, {Object: -1, Name: "z", At: 1120},
	}
	if !slices.Equal(spots, wantSpots) {
		t.Errorf("%v", spots)
	}
}

func TestAllRefuses(t *testing.T) {
	for name, c := range map[string]struct {
		change func(p *api.Plan, gate *int, parts *[]api.Part)
		want   api.Errno
	}{
		"as it is":           {func(p *api.Plan, gate *int, parts *[]api.Part) {}, api.OK},
		"too few parts":      {func(p *api.Plan, gate *int, parts *[]api.Part) { *parts = (*parts)[:1] }, api.ErrArg},
		"too many parts":     {func(p *api.Plan, gate *int, parts *[]api.Part) { *parts = append(*parts, api.Part{}) }, api.ErrArg},
		"gate -1":            {func(p *api.Plan, gate *int, parts *[]api.Part) { *gate = -1 }, api.ErrArg},
		"gate too great":     {func(p *api.Plan, gate *int, parts *[]api.Part) { *gate = 66000 }, api.ErrLimit},
		"gate huge":          {func(p *api.Plan, gate *int, parts *[]api.Part) { *gate = math.MaxInt }, api.ErrLimit},
		"arg ahead of limit": {func(p *api.Plan, gate *int, parts *[]api.Part) { *gate = math.MaxInt; *parts = nil }, api.ErrArg},
		"trusted huge":       {func(p *api.Plan, gate *int, parts *[]api.Part) { p.Trusted = math.MaxInt }, api.ErrLimit},
		"trusted 2^59":       {func(p *api.Plan, gate *int, parts *[]api.Part) { p.Trusted = 1 << 59 }, api.ErrLimit},
		"trusted below 0":    {func(p *api.Plan, gate *int, parts *[]api.Part) { p.Trusted = math.MinInt }, api.ErrLimit},
		"stack below 0":      {func(p *api.Plan, gate *int, parts *[]api.Part) { p.Stack = -8 }, api.ErrLimit},
		"stack huge":         {func(p *api.Plan, gate *int, parts *[]api.Part) { p.Stack = math.MaxInt }, api.ErrLimit},
		"a share below 0":    {func(p *api.Plan, gate *int, parts *[]api.Part) { p.Shares[0].N = -1 }, api.ErrLimit},
		"code huge": {func(p *api.Plan, gate *int, parts *[]api.Part) {
			(*parts)[0].Loaded[0].Object.Sections[0].Size = math.MaxUint32
		}, api.ErrLimit},
		"globals huge": {func(p *api.Plan, gate *int, parts *[]api.Part) {
			(*parts)[0].Loaded[0].Object.Sections[4].Size = math.MaxUint32
		}, api.ErrLimit},
		"a common one huge": {func(p *api.Plan, gate *int, parts *[]api.Part) {
			(*parts)[0].Loaded[0].Object.Symbols[0].Size = math.MaxUint32
		}, api.ErrLimit},
		"an align of 512": {func(p *api.Plan, gate *int, parts *[]api.Part) { (*parts)[0].Loaded[0].Object.Sections[0].Align = 512 }, api.ErrLimit},
		"an align of 0":   {func(p *api.Plan, gate *int, parts *[]api.Part) { (*parts)[0].Loaded[0].Object.Sections[0].Align = 0 }, api.OK},
		"an align of 12": {func(p *api.Plan, gate *int, parts *[]api.Part) {
			(*parts)[1].Loaded = []api.Loaded{{Object: api.Object{Sections: []api.Section{section(1, 2, 12, 1)}}}}
		}, api.ErrLimit},
		"a target of none": {func(p *api.Plan, gate *int, parts *[]api.Part) {
			(*parts)[1].Bounds = []api.Bound{{Target: api.Target{Object: 5}}, {Target: api.Target{Object: -3}}}
			(*parts)[0].Bounds = append((*parts)[0].Bounds, api.Bound{Target: api.Target{Symbol: 9}}, api.Bound{Target: api.Target{Symbol: -9}})
		}, api.OK},
	} {
		p, parts := world()
		gate := 100
		c.change(&p, &gate, &parts)
		regions, spots, e := place.All(p, gate, parts)
		if e != c.want || e != api.OK && (len(regions) != 0 || len(spots) != 0) {
			t.Errorf("%s: %d", name, e)
		}
	}
}

func TestAddress(t *testing.T) {
	spots := []api.Spot{{Part: 0, Object: 1, Section: 2, At: 100}, {Part: 1, Object: 1, Section: 2, At: 200}, {Part: 1, Object: -1, Name: "x", At: 300}}
	for _, c := range []struct {
		part, object, section int
		value, want           uint32
		ok                    bool
	}{{0, 1, 2, 0, 100, true}, {1, 1, 2, 7, 207, true}, {0, 1, 1, 0, 0, false}, {0, 0, 2, 0, 0, false}, {2, 1, 2, 0, 0, false}, {1, 1, 2, math.MaxUint32, 199, true}} {
		if at, ok := place.Address(spots, c.part, c.object, c.section, c.value); at != c.want || ok != c.ok {
			t.Errorf("%v: %d, %v", c, at, ok)
		}
	}
	if _, ok := place.Address(nil, 0, 0, 0, 0); ok {
		t.Error("of none")
	}
}

// checkApart checks that regions stand apart, one behind the other, each exact.
func checkApart(t *testing.T, regions []api.Region) {
	t.Helper()
	end := uint32(64)
	for _, r := range regions {
		if _, e := bounds.Exact(uint64(r.At), uint64(r.At+r.N)); e != api.OK || r.At < end || r.At%8 != 0 || r.At+r.N > 65280 {
			t.Fatalf("%v behind %d: %d", r, end, e)
		}
		end = r.At + r.N
	}
}

func TestWhatFollows(t *testing.T) {
	r := rand.New(rand.NewSource(8))
	placed := 0
	for range 500 {
		p := api.Plan{Stack: 64 + 8*r.Intn(500), Trusted: 1 + r.Intn(60)}
		for k := range r.Intn(4) {
			p.Shares = append(p.Shares, api.Share{Name: fmt.Sprint("r", k), N: 1 + r.Intn(4096)})
		}
		var parts []api.Part
		for k := range 1 + r.Intn(4) {
			p.Compartments = append(p.Compartments, api.Compartment{Name: fmt.Sprint("c", k), Exports: make([]api.Export, r.Intn(17)), Imports: make([]api.Import, r.Intn(17)), Gives: make([]api.Give, r.Intn(3))})
			var part api.Part
			for range r.Intn(4) {
				var o api.Object
				for range r.Intn(5) {
					o.Sections = append(o.Sections, section([]uint32{1, 8}[r.Intn(2)], uint32(r.Intn(8)), 1<<r.Intn(9), uint32(r.Intn(3000))))
				}
				part.Loaded = append(part.Loaded, api.Loaded{Object: o})
			}
			parts = append(parts, part)
		}
		regions, spots, e := place.All(p, 1000, parts)
		if e != api.OK {
			continue
		}
		placed++
		checkApart(t, regions)
		var taken [65280]bool
		for _, s := range spots {
			x := parts[s.Part].Loaded[s.Object].Object.Sections[s.Section]
			kind := uint8(api.RegData)
			if x.Kind == 1 && x.Flags&3 == 2 {
				kind = api.RegCode
			}
			k := slices.IndexFunc(regions, func(r api.Region) bool { return r.Kind == kind && r.Owner == s.Part })
			if s.At%max(x.Align, 8) != 0 || s.At < regions[k].At || s.At+x.Size > regions[k].At+regions[k].N {
				t.Fatalf("%v of %v in %v", s, x, regions[k])
			}
			for at := s.At; at < s.At+x.Size; at++ {
				if taken[at] {
					t.Fatalf("%v: taken", s)
				}
				taken[at] = true
			}
		}
	}
	if placed < 50 {
		t.Error("too few", placed)
	}
}
