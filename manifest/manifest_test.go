package manifest_test

import (
	"fmt"
	"math"
	"reflect"
	"strings"
	"testing"

	"bulwark/api"
	"bulwark/graph"
	"bulwark/image"
	"bulwark/kit"
	"bulwark/lines"
	"bulwark/link"
	"bulwark/manifest"
)

const text = `compartment a
compartment b
export a main 0 64
export b f 2 32
export b g 6 4088
call a b f
call a b g
call b a main
device a led 65284 8
device b clock 65532 4
share a log r
share a pool rw
start a main
`

func good() api.Graph {
	return api.Graph{
		Compartments: []string{"a", "b"},
		Edges: []api.Edge{
			{Kind: 1, From: 0, To: -1, Name: "main", What: 64 << 8}, {Kind: 1, From: 1, To: -1, Name: "f", What: 2 + 32<<8}, {Kind: 1, From: 1, To: -1, Name: "g", What: 6 + 4088<<8},
			{Kind: 2, From: 0, To: 1, Name: "f"}, {Kind: 2, From: 0, To: 1, Name: "g"}, {Kind: 2, From: 1, To: 0, Name: "main"},
			{Kind: 3, From: 0, To: -1, Name: "led", What: 65284 + 8<<16}, {Kind: 3, From: 1, To: -1, Name: "clock", What: 65532 + 4<<16},
			{Kind: 4, From: 0, To: -1, Name: "log", What: 1}, {Kind: 4, From: 0, To: -1, Name: "pool", What: 3},
			{Kind: 5, From: 0, To: -1, Name: "main"},
		},
	}
}

func TestPutAndGet(t *testing.T) {
	if s, e := manifest.Put(good()); s != text || e != api.OK {
		t.Errorf("%s, %d", s, e)
	}
	if g, line, e := manifest.Get(text); !reflect.DeepEqual(g, good()) || line != 0 || e != api.OK {
		t.Errorf("%+v, %d, %d", g, line, e)
	}
	if s, e := manifest.Put(api.Graph{}); s != "" || e != api.OK {
		t.Errorf("%q, %d", s, e)
	}
	if g, line, e := manifest.Get(""); !graph.Same(g, api.Graph{}) || line != 0 || e != api.OK {
		t.Errorf("%+v, %d, %d", g, line, e)
	}
	if _, line, e := manifest.Get("compartment a\ncompartment a"); line != 2 || e != api.ErrTwice {
		t.Errorf("%d, %d", line, e)
	}
}

func TestPutRefuses(t *testing.T) {
	for name, c := range map[string]struct {
		change func(g *api.Graph)
		want   api.Errno
	}{
		"as it is":             {func(g *api.Graph) {}, api.OK},
		"no edges":             {func(g *api.Graph) { g.Edges = nil }, api.OK},
		"no compartments":      {func(g *api.Graph) { g.Compartments = nil }, api.ErrArg},
		"a great letter":       {func(g *api.Graph) { g.Compartments[0] = "A" }, api.ErrArg},
		"an empty name":        {func(g *api.Graph) { g.Compartments[0] = "" }, api.ErrArg},
		"17 bytes":             {func(g *api.Graph) { g.Compartments[0] = strings.Repeat("a", 17) }, api.ErrArg},
		"16 bytes":             {func(g *api.Graph) { g.Compartments[0] = strings.Repeat("a", 16) }, api.OK},
		"twice":                {func(g *api.Graph) { g.Compartments[1] = "a" }, api.ErrArg},
		"from -1":              {func(g *api.Graph) { g.Edges[0].From = -1 }, api.ErrArg},
		"from 2":               {func(g *api.Graph) { g.Edges[10].From = 2 }, api.ErrArg},
		"to 0 of an export":    {func(g *api.Graph) { g.Edges[0].To = 0 }, api.ErrArg},
		"to -1 of a call":      {func(g *api.Graph) { g.Edges[3].To = -1 }, api.ErrArg},
		"to 2 of a call":       {func(g *api.Graph) { g.Edges[5].To = 2 }, api.ErrArg},
		"to -2":                {func(g *api.Graph) { g.Edges[10].To = -2 }, api.ErrArg},
		"kind 0":               {func(g *api.Graph) { g.Edges[0].Kind = 0 }, api.ErrArg},
		"kind 6":               {func(g *api.Graph) { g.Edges[10].Kind = 6 }, api.ErrArg},
		"a symbol of 32":       {func(g *api.Graph) { g.Edges[10].Name = strings.Repeat("!", 32) }, api.OK},
		"a symbol of 33":       {func(g *api.Graph) { g.Edges[10].Name = strings.Repeat("!", 33) }, api.ErrArg},
		"a symbol with #":      {func(g *api.Graph) { g.Edges[10].Name = "#a" }, api.ErrArg},
		"a symbol of none":     {func(g *api.Graph) { g.Edges[10].Name = "" }, api.ErrArg},
		"a symbol of blanks":   {func(g *api.Graph) { g.Edges[3].Name = "a b" }, api.ErrArg},
		"a device's name":      {func(g *api.Graph) { g.Edges[6].Name = "Led" }, api.ErrArg},
		"a region's name":      {func(g *api.Graph) { g.Edges[8].Name = "a.b" }, api.ErrArg},
		"6 arguments":          {func(g *api.Graph) { g.Edges[0].What = 6 }, api.OK},
		"7 arguments":          {func(g *api.Graph) { g.Edges[0].What = 7 }, api.ErrArg},
		"stack 4088":           {func(g *api.Graph) { g.Edges[0].What = 4088 << 8 }, api.OK},
		"stack 4096":           {func(g *api.Graph) { g.Edges[0].What = 4096 << 8 }, api.ErrArg},
		"stack 4":              {func(g *api.Graph) { g.Edges[0].What = 4 << 8 }, api.ErrArg},
		"a call's What":        {func(g *api.Graph) { g.Edges[3].What = 1 }, api.ErrArg},
		"start's What":         {func(g *api.Graph) { g.Edges[10].What = 1 }, api.ErrArg},
		"device at 65276":      {func(g *api.Graph) { g.Edges[6].What = 65276 + 8<<16 }, api.ErrArg},
		"device at 65282":      {func(g *api.Graph) { g.Edges[6].What = 65282 + 4<<16 }, api.ErrArg},
		"device of 0":          {func(g *api.Graph) { g.Edges[6].What = 65284 }, api.ErrArg},
		"device of 6":          {func(g *api.Graph) { g.Edges[6].What = 65284 + 6<<16 }, api.ErrArg},
		"device beyond":        {func(g *api.Graph) { g.Edges[7].What = 65532 + 8<<16 }, api.ErrArg},
		"device of all":        {func(g *api.Graph) { g.Edges[6].What = 65280 + 256<<16 }, api.OK},
		"device of very many":  {func(g *api.Graph) { g.Edges[6].What = 65280 + 65532<<16 }, api.ErrArg},
		"share 0":              {func(g *api.Graph) { g.Edges[8].What = 0 }, api.ErrArg},
		"share 2":              {func(g *api.Graph) { g.Edges[8].What = 2 }, api.ErrArg},
		"edges that stand":     {func(g *api.Graph) { g.Edges[4] = g.Edges[3] }, api.ErrArg},
		"edges that fall":      {func(g *api.Graph) { g.Edges[3], g.Edges[4] = g.Edges[4], g.Edges[3] }, api.ErrArg},
		"names before numbers": {func(g *api.Graph) { g.Edges[1], g.Edges[2] = g.Edges[2], g.Edges[1] }, api.ErrArg},
		"one name, two Whats":  {func(g *api.Graph) { g.Edges[2] = g.Edges[1]; g.Edges[2].What += 1 << 11 }, api.OK},
		"huge numbers":         {func(g *api.Graph) { g.Edges[3].To, g.Edges[3].From = math.MaxInt, math.MinInt }, api.ErrArg},
		"too many lines": {func(g *api.Graph) {
			g.Edges = nil
			for k := range 400 {
				g.Edges = append(g.Edges, api.Edge{Kind: 1, To: -1, Name: fmt.Sprintf("f%03d", k)})
			}
		}, api.ErrLimit},
		"just 400 lines": {func(g *api.Graph) {
			g.Edges = nil
			for k := range 398 {
				g.Edges = append(g.Edges, api.Edge{Kind: 1, To: -1, Name: fmt.Sprintf("f%03d", k)})
			}
		}, api.OK},
	} {
		g := good()
		c.change(&g)
		s, e := manifest.Put(g)
		if e != c.want || e != api.OK && s != "" {
			t.Errorf("%s: %q, %d", name, s, e)
		}
		if e != api.OK {
			continue
		}
		if back, line, e := manifest.Get(s); !graph.Same(back, g) || line != 0 || e != api.OK {
			t.Errorf("%s: came back as %+v, %d, %d", name, back, line, e)
		}
	}
}

func TestGetErrors(t *testing.T) {
	head := "compartment a\ncompartment b\n"
	for name, c := range map[string]struct {
		text string
		line int
		e    api.Errno
	}{
		"lines' form":          {"compartment a\ncompartment a\n\x01", 0, api.ErrForm},
		"lines' limit":         {"x" + strings.Repeat("\n", 401), 0, api.ErrLimit},
		"remarks, blanks":      {"# a\n\n  compartment\ta # b\n", 0, api.OK},
		"no such line":         {head + "import a b f", 3, api.ErrForm},
		"too few words":        {head + "call a b", 3, api.ErrForm},
		"too many words":       {head + "call a b f g", 3, api.ErrForm},
		"no name":              {head + "compartment C", 3, api.ErrForm},
		"a compartment behind": {head + "start a f\ncompartment c", 4, api.ErrForm},
		"twice, behind":        {head + "start a f\ncompartment a", 4, api.ErrForm},
		"7 arguments":          {head + "export a f 7 0", 3, api.ErrForm},
		"256 arguments":        {head + "export a f 256 0", 3, api.ErrForm},
		"a stack of 4":         {head + "export a f 0 4", 3, api.ErrForm},
		"a stack of 4096":      {head + "export a f 0 4096", 3, api.ErrForm},
		"a stack that wraps":   {head + "export a f 0 16777216", 3, api.ErrForm},
		"not in tens":          {head + "export a f 0x1 0", 3, api.ErrForm},
		"a needless nought":    {head + "export a f 01 0", 3, api.ErrForm},
		"not in tens, either":  {head + "device a d 65280 0x4", 3, api.ErrForm},
		"an export of none":    {head + "export c f 0 0", 3, api.ErrNone},
		"form ahead of none":   {head + "export c f 7 0", 3, api.ErrForm},
		"no name, not none":    {head + "export C f 0 0", 3, api.ErrForm},
		"call to none":         {head + "call a c f", 3, api.ErrNone},
		"call of none":         {head + "call c a f", 3, api.ErrNone},
		"call to no name":      {head + "call c A f", 3, api.ErrForm},
		"a device's name":      {head + "device a D 65280 4", 3, api.ErrForm},
		"a device's place":     {head + "device a d 65276 4", 3, api.ErrForm},
		"a device's bytes":     {head + "device a d 65532 8", 3, api.ErrForm},
		"a device of none":     {head + "device c d 65280 4", 3, api.ErrNone},
		"share w":              {head + "share a r w", 3, api.ErrForm},
		"a region's name":      {head + "share a R r", 3, api.ErrForm},
		"a share of none":      {head + "share c r r", 3, api.ErrNone},
		"a start of none":      {head + "start c f", 3, api.ErrNone},
		"behind a greater one": {head + "call a b g\ncall a b f", 4, api.ErrForm},
		"a kind behind":        {head + "start a f\nexport a f 0 0", 4, api.ErrForm},
		"none ahead of order":  {head + "start a f\nexport c f 0 0", 4, api.ErrNone},
		"the same again":       {head + "call a b g\ncall a b g", 4, api.ErrTwice},
		"said before that":     {head + "call a b f\ncall a b g\ncall a b f", 5, api.ErrForm},
		"two starts":           {head + "start a f\nstart b f", 0, api.OK},
		"a share, r and rw":    {head + "share a r r\nshare a r rw", 0, api.OK},
		"a symbol of 33":       {head + "start a " + strings.Repeat("x", 33), 3, api.ErrForm},
	} {
		g, line, e := manifest.Get(c.text)
		if line != c.line || e != c.e || e != api.OK && !reflect.DeepEqual(g, api.Graph{}) {
			t.Errorf("%s: %d, %d", name, line, e)
		}
		if e != api.OK {
			continue
		}
		s, e := manifest.Put(g)
		said, _ := lines.Read(c.text)
		again, _ := lines.Read(s)
		for k := range said {
			said[k].Line = k + 1
		}
		if e != api.OK || !reflect.DeepEqual(said, again) {
			t.Errorf("%s: put as %q, %d", name, s, e)
		}
	}
}

// The manifest that is told by an image's bytes is the plan's, and comes back of its text.
func TestOfAnImage(t *testing.T) {
	i, f := link.Link("stack 256\ntrusted 2\nshare pool 40\ncompartment a\ncompartment b\nobject a a.o\nobject b b.o\nexport a main 0 64\nexport b f 2 32\nimport a b f\ndevice a led 65280 8\ngive b pool rw\nstart a main\n",
		[]api.File{kit.File("a.o", ".section .text 6 4\n.global main\nmain: addi c0 c0 0\n"), kit.File("b.o", ".section .text 6 4\n.global f\nf: addi c0 c0 0\n")})
	if f != (api.Fault{}) {
		t.Fatal(f)
	}
	b, _ := image.Put(i)
	j, e := image.Get(b)
	if e != api.OK {
		t.Fatal(e)
	}
	of, e1 := graph.Of(j)
	says, e2 := graph.Plan(i.Plan)
	if e1 != api.OK || e2 != api.OK || !graph.Same(of, says) {
		t.Errorf("%+v, %+v", of, says)
	}
	s, e := manifest.Put(of)
	want := "compartment a\ncompartment b\nexport a main 0 64\nexport b f 2 32\ncall a b f\ndevice a led 65280 8\nshare b pool rw\nstart a main\n"
	if s != want || e != api.OK {
		t.Errorf("%s, %d", s, e)
	}
	if back, _, e := manifest.Get(s); e != api.OK || !graph.Same(back, of) {
		t.Errorf("%+v, %d", back, e)
	}
}
