package graph_test

import (
	"encoding/binary"
	"math/rand"
	"reflect"
	"slices"
	"testing"

	"bulwark/api"
	"bulwark/capa"
	"bulwark/gate"
	"bulwark/graph"
	"bulwark/kit"
	"bulwark/link"
	"bulwark/tables"
)

const planText = `stack 256
trusted 4
share pool 40
share log 8
compartment a
compartment b
object a a.o
object b b.o
export a main 0 64
export b g 6 4088
export b f 2 32
import a b g
import a b f
import b a main
import b b f
device a led 65284 8
device a clock 65532 4
device b led 65280 4
give a pool rw
give a log r
give b pool r
start a main
`

func linked(t *testing.T) api.Image {
	t.Helper()
	i, f := link.Link(planText, []api.File{
		kit.File("a.o", ".section .text 6 4\n.global main\nmain: addi c0 c0 0\n.section .data 3 8\n.bytes 40\n"),
		kit.File("b.o", ".section .text 6 4\n.global f\n.global g\nf: addi c0 c0 0\ng: addi c0 c0 1\naddi c0 c0 2\n"),
	})
	if f != (api.Fault{}) {
		t.Fatalf("%+v", f)
	}
	return i
}

func want() api.Graph {
	return api.Graph{
		Compartments: []string{"a", "b"},
		Edges: []api.Edge{
			{Kind: 1, From: 0, To: -1, Name: "main", What: 64 << 8}, {Kind: 1, From: 1, To: -1, Name: "f", What: 2 + 32<<8}, {Kind: 1, From: 1, To: -1, Name: "g", What: 6 + 4088<<8},
			{Kind: 2, From: 0, To: 1, Name: "f"}, {Kind: 2, From: 0, To: 1, Name: "g"}, {Kind: 2, From: 1, To: 0, Name: "main"}, {Kind: 2, From: 1, To: 1, Name: "f"},
			{Kind: 3, From: 0, To: -1, Name: "clock", What: 65532 + 4<<16}, {Kind: 3, From: 0, To: -1, Name: "led", What: 65284 + 8<<16}, {Kind: 3, From: 1, To: -1, Name: "led", What: 65280 + 4<<16},
			{Kind: 4, From: 0, To: -1, Name: "log", What: 1}, {Kind: 4, From: 0, To: -1, Name: "pool", What: 3}, {Kind: 4, From: 1, To: -1, Name: "pool", What: 1},
			{Kind: 5, From: 0, To: -1, Name: "main"},
		},
	}
}

func TestOfAndPlan(t *testing.T) {
	i := linked(t)
	g, e := graph.Of(i)
	if e != api.OK || !reflect.DeepEqual(g, want()) {
		t.Errorf("Of: %+v, %d", g, e)
	}
	g, e = graph.Plan(i.Plan)
	if e != api.OK || !reflect.DeepEqual(g, want()) {
		t.Errorf("Plan: %+v, %d", g, e)
	}
	if g, e := graph.Plan(api.Plan{}); e != api.ErrForm || !reflect.DeepEqual(g, api.Graph{}) {
		t.Errorf("%+v, %d", g, e)
	}
	if g, e := graph.Of(api.Image{}); e != api.ErrArg || !reflect.DeepEqual(g, api.Graph{}) {
		t.Errorf("%+v, %d", g, e)
	}
}

func region(i api.Image, kind uint8, owner int) int {
	return slices.IndexFunc(i.Regions, func(r api.Region) bool { return r.Kind == kind && r.Owner == owner })
}

func at(i api.Image, kind uint8, owner int) uint32 { return i.Regions[region(i, kind, owner)].At }

// store writes a capability to an image.
func store(i *api.Image, at uint32, c api.Cap) {
	b := capa.Bytes(c)
	copy(i.Bytes[at:], b[:])
	g := int(at / 8)
	i.Tags = slices.DeleteFunc(i.Tags, func(x int) bool { return x == g })
	if c.Tag {
		i.Tags = append(i.Tags, g)
		slices.Sort(i.Tags)
	}
}

func load(t *testing.T, i api.Image, at uint32) api.Cap {
	t.Helper()
	m, e := link.Load(i)
	if e != api.OK {
		t.Fatal(e)
	}
	c, _ := m.LoadCap(at)
	return c
}

func untag(i *api.Image, at uint32) {
	i.Tags = slices.DeleteFunc(i.Tags, func(x int) bool { return x == int(at/8) })
}

func TestOfRefuses(t *testing.T) {
	for name, c := range map[string]struct {
		change func(i *api.Image)
		want   api.Errno
	}{
		"as it is":            {func(i *api.Image) {}, api.OK},
		"no plan":             {func(i *api.Image) { i.Plan.Stack = 3 }, api.ErrArg},
		"tags fall":           {func(i *api.Image) { slices.Reverse(i.Tags) }, api.ErrArg},
		"a register":          {func(i *api.Image) { i.Start.Regs[4].Addr = 1 }, api.ErrArg},
		"a slot's tag":        {func(i *api.Image) { untag(i, at(*i, api.RegCode, 0)) }, api.ErrForm},
		"the last slot's tag": {func(i *api.Image) { untag(i, at(*i, api.RegCode, 1)+32) }, api.ErrForm},
		"an entry's tag":      {func(i *api.Image) { untag(i, at(*i, api.RegExports, 1)) }, api.ErrForm},
		"globals' tag":        {func(i *api.Image) { untag(i, at(*i, api.RegExports, 1)+8) }, api.ErrForm},
		"a tag in code":       {func(i *api.Image) { store(i, at(*i, api.RegCode, 1)+40, api.Cap{Tag: true}) }, api.ErrForm},
		"a tag in globals":    {func(i *api.Image) { store(i, at(*i, api.RegData, 0), api.Cap{Tag: true}) }, api.ErrForm},
		"a tag in a share":    {func(i *api.Image) { store(i, at(*i, api.RegShare, 0), api.Cap{Tag: true}) }, api.ErrForm},
		"a tag on the stack":  {func(i *api.Image) { store(i, at(*i, api.RegStack, -1), api.Cap{Tag: true}) }, api.ErrForm},
		"a tag nowhere":       {func(i *api.Image) { store(i, 0, api.Cap{Tag: true}) }, api.ErrForm},
		"a tag of a word": {func(i *api.Image) {
			g := int(at(*i, api.RegExports, 1)+16) / 8
			i.Tags = append(i.Tags, g)
			slices.Sort(i.Tags)
		}, api.ErrForm},
		"bytes in globals":   {func(i *api.Image) { i.Bytes[at(*i, api.RegData, 0)] = 7 }, api.OK},
		"bytes in a share":   {func(i *api.Image) { i.Bytes[at(*i, api.RegShare, 0)] = 7 }, api.OK},
		"bytes of code":      {func(i *api.Image) { i.Bytes[at(*i, api.RegCode, 1)+40] = 7 }, api.OK},
		"a word of the gate": {func(i *api.Image) { i.Bytes[64+4*50]++ }, api.ErrForm},
		"its last word":      {func(i *api.Image) { i.Bytes[64+gate.Size()-1]++ }, api.ErrForm},
		"swapped slots": {func(i *api.Image) {
			base := at(*i, api.RegCode, 0)
			x, y := load(t, *i, base+8), load(t, *i, base+16)
			store(i, base+8, y)
			store(i, base+16, x)
		}, api.ErrForm},
		"a device with more": {func(i *api.Image) {
			c, _ := capa.Root(65280, 65296, 19)
			store(i, at(*i, api.RegCode, 0)+24, c)
		}, api.ErrForm},
		"a share to write": {func(i *api.Image) {
			base := at(*i, api.RegCode, 1) + 32
			c := load(t, *i, base)
			c.Perms = 19
			store(i, base, c)
		}, api.ErrForm},
		"an open export": {func(i *api.Image) {
			base := at(*i, api.RegCode, 0) + 8
			c := load(t, *i, base)
			c.Type = 0
			store(i, base, c)
		}, api.ErrForm},
		"another place": {func(i *api.Image) {
			base := at(*i, api.RegExports, 1)
			c := load(t, *i, base)
			c.Addr += 4
			store(i, base, c)
		}, api.OK},
		"a place of no four": {func(i *api.Image) {
			base := at(*i, api.RegExports, 1)
			c := load(t, *i, base)
			c.Addr += 2
			store(i, base, c)
		}, api.ErrForm},
		"a place behind": {func(i *api.Image) {
			base := at(*i, api.RegExports, 1)
			c := load(t, *i, base)
			c.Addr += 400
			store(i, base, c)
		}, api.ErrForm},
		"another start's place": {func(i *api.Image) {
			base := at(*i, api.RegExports, 0)
			c := load(t, *i, base)
			c.Addr += 4
			store(i, base, c)
		}, api.ErrForm},
		"a start there, too": {func(i *api.Image) {
			base := at(*i, api.RegExports, 0)
			c := load(t, *i, base)
			c.Addr += 4
			store(i, base, c)
			i.Start.Pcc.Addr += 4
		}, api.OK},
		"an open sentry": {func(i *api.Image) {
			base := at(*i, api.RegExports, 1)
			c := load(t, *i, base)
			c.Type = 2
			store(i, base, c)
		}, api.ErrForm},
		"7 arguments":      {func(i *api.Image) { i.Bytes[at(*i, api.RegExports, 1)+16] = 7 }, api.ErrForm},
		"too much stack":   {func(i *api.Image) { i.Bytes[at(*i, api.RegExports, 1)+18] = 0x10 }, api.ErrForm},
		"start is off":     {func(i *api.Image) { i.Start.On = false }, api.ErrForm},
		"start's Pcc":      {func(i *api.Image) { i.Start.Pcc.Addr += 4 }, api.ErrForm},
		"start's c1":       {func(i *api.Image) { i.Start.Regs[1].Type = 1 }, api.ErrForm},
		"start's c2":       {func(i *api.Image) { i.Start.Regs[2].Addr -= 8 }, api.ErrForm},
		"start's c3":       {func(i *api.Image) { i.Start.Regs[3].Tag = false }, api.ErrForm},
		"start's Mtcc":     {func(i *api.Image) { i.Start.Mtcc.Addr -= 4 }, api.ErrForm},
		"start's Mtdc":     {func(i *api.Image) { i.Start.Mtdc.Perms = 127 }, api.ErrForm},
		"a region less":    {func(i *api.Image) { i.Regions = i.Regions[:len(i.Regions)-1] }, api.ErrForm},
		"a region more":    {func(i *api.Image) { i.Regions = append(i.Regions, api.Region{Kind: 7, Owner: 1, At: 60000, N: 8}) }, api.ErrForm},
		"another kind":     {func(i *api.Image) { i.Regions[3].Kind = 3 }, api.ErrForm},
		"another owner":    {func(i *api.Image) { i.Regions[3].Owner = 1 }, api.ErrForm},
		"out of order":     {func(i *api.Image) { i.Regions[3], i.Regions[4] = i.Regions[4], i.Regions[3] }, api.ErrForm},
		"a greater stack":  {func(i *api.Image) { i.Regions[2].N -= 8 }, api.ErrForm},
		"a lesser trusted": {func(i *api.Image) { i.Regions[1].N -= 8 }, api.ErrForm},
		"a greater share":  {func(i *api.Image) { i.Plan.Shares[0].N = 48 }, api.ErrForm},
		"as great a share": {func(i *api.Image) { i.Plan.Shares[0].N = 33 }, api.OK},
		"globals of more": {func(i *api.Image) {
			k := region(*i, api.RegData, 1)
			i.Regions[k].N += 64
		}, api.ErrForm},
		"another name": {func(i *api.Image) { i.Plan.Compartments[0].Name = "c" }, api.OK},
		"another import": {func(i *api.Image) {
			i.Plan.Compartments[0].Imports[0].Name = "f"
			i.Plan.Compartments[0].Imports[1].Name = "g"
		}, api.ErrForm},
		"a device more": {func(i *api.Image) {
			i.Plan.Compartments[1].Devices = append(i.Plan.Compartments[1].Devices, api.Device{Name: "x", At: 65280, N: 4})
		}, api.ErrForm},
	} {
		i := linked(t)
		c.change(&i)
		g, e := graph.Of(i)
		if e != c.want || e != api.OK && !reflect.DeepEqual(g, api.Graph{}) {
			t.Errorf("%s: %d", name, e)
		}
	}
}

// Regions may stand elsewhere, if all that hangs on their places does so, too.
func TestGlobalsOfAnySize(t *testing.T) {
	i := linked(t)
	k := region(i, api.RegData, 1)
	i.Regions[k].N = 64
	for n := range 2 {
		fills, _, e := tables.Entry(i.Regions, 1, load(t, i, at(i, api.RegExports, 1)+24*uint32(n)).Addr, 0, 0)
		if e != api.OK {
			t.Fatal(e)
		}
		store(&i, at(i, api.RegExports, 1)+24*uint32(n)+8, fills[1].Cap)
	}
	if g, e := graph.Of(i); e != api.OK || !graph.Same(g, want()) {
		t.Errorf("%d", e)
	}
	i.Regions[k].At, i.Regions[k].N = i.Regions[k].At+4, 60
	if _, e := graph.Of(i); e != api.ErrForm {
		t.Errorf("not exact: %d", e)
	}
}

func TestEntryIsToldAsItStands(t *testing.T) {
	i := linked(t)
	binary.LittleEndian.PutUint32(i.Bytes[at(i, api.RegExports, 1)+16:], 3+77<<8)
	g, e := graph.Of(i)
	w := want()
	w.Edges[2].What = 3 + 77<<8
	if e != api.OK || !graph.Same(g, w) {
		t.Errorf("%+v, %d", g, e)
	}
}

func TestReach(t *testing.T) {
	i := linked(t)
	r := func(kind uint8, owner int) (uint32, uint32) {
		x := i.Regions[region(i, kind, owner)]
		return x.At, x.N
	}
	span := func(kind uint8, owner int, write bool) api.Span {
		a, n := r(kind, owner)
		return api.Span{At: a, N: n, Write: write}
	}
	for c, want := range [][]api.Span{
		{span(api.RegShare, 0, true), span(api.RegShare, 1, false), span(api.RegCode, 0, false), span(api.RegData, 0, true), {At: 65284, N: 8, Write: true}, {At: 65532, N: 4, Write: true}},
		{span(api.RegShare, 0, false), span(api.RegCode, 1, false), span(api.RegData, 1, true), {At: 65280, N: 4, Write: true}},
	} {
		if got, e := graph.Reach(i, c); e != api.OK || !slices.Equal(got, want) {
			t.Errorf("%d: %v, %d", c, got, e)
		}
	}
	for _, c := range []int{-1, 2} {
		if l, e := graph.Reach(i, c); e != api.ErrArg || len(l) != 0 {
			t.Errorf("%d: %d", c, e)
		}
	}
	if _, e := graph.Reach(api.Image{}, 0); e != api.ErrArg {
		t.Errorf("an empty image: %d", e)
	}
	untag(&i, at(i, api.RegCode, 0))
	for _, c := range []int{0, 5} {
		if l, e := graph.Reach(i, c); e != api.ErrForm || len(l) != 0 {
			t.Errorf("without a tag: %d", e)
		}
	}
}

func TestReachEachOnce(t *testing.T) {
	text := "stack 64\ntrusted 1\ncompartment a\nobject a a.o\nexport a m 0 0\ndevice a x 65280 4\ndevice a y 65280 4\ndevice a z 65280 8\nstart a m\n"
	i, f := link.Link(text, []api.File{kit.File("a.o", ".section .text 6 4\n.global m\nm: addi c0 c0 0\n")})
	if f != (api.Fault{}) {
		t.Fatal(f)
	}
	l, e := graph.Reach(i, 0)
	if e != api.OK || len(l) != 4 || l[2] != (api.Span{At: 65280, N: 4, Write: true}) || l[3] != (api.Span{At: 65280, N: 8, Write: true}) {
		t.Errorf("%v, %d", l, e)
	}
}

func TestSame(t *testing.T) {
	if !graph.Same(want(), want()) || !graph.Same(api.Graph{}, api.Graph{Compartments: []string{}, Edges: []api.Edge{}}) {
		t.Error("the same")
	}
	for k, change := range []func(g *api.Graph){
		func(g *api.Graph) { g.Compartments[0] = "x" }, func(g *api.Graph) { g.Edges = g.Edges[1:] }, func(g *api.Graph) { g.Edges[0].What++ }, func(g *api.Graph) { g.Edges[3].To++ }, func(g *api.Graph) { g.Compartments = nil },
	} {
		g := want()
		change(&g)
		if graph.Same(g, want()) || graph.Same(want(), g) {
			t.Errorf("%d: the same", k)
		}
	}
}

// With a tag more or less it is refused; with another byte where a tag is, too, but for the place of an export.
func TestAnotherTagOrByte(t *testing.T) {
	i := linked(t)
	places := map[int]bool{}
	for n := range 2 {
		for k := range 4 {
			places[int(at(i, api.RegExports, 1))+24*n+k] = true
		}
	}
	r := rand.New(rand.NewSource(5))
	for _, g := range i.Tags {
		j := linked(t)
		untag(&j, uint32(8*g))
		if _, e := graph.Of(j); e != api.ErrForm {
			t.Fatalf("without the tag of %d: %d", g, e)
		}
		for k := range 8 {
			if places[8*g+k] {
				continue
			}
			j := linked(t)
			j.Bytes[8*g+k] ^= byte(1 + r.Intn(255))
			if _, e := graph.Of(j); e != api.ErrForm {
				t.Fatalf("another byte %d: %d", 8*g+k, e)
			}
		}
	}
	for range 300 {
		g := r.Intn(8160)
		if slices.Contains(i.Tags, g) {
			continue
		}
		j := linked(t)
		j.Tags = append(j.Tags, g)
		slices.Sort(j.Tags)
		if _, e := graph.Of(j); e != api.ErrForm {
			t.Fatalf("with a tag of %d: %d", g, e)
		}
	}
}
