package plan_test

import (
	"fmt"
	"reflect"
	"strings"
	"testing"

	"bulwark/api"
	"bulwark/plan"
)

const good = `stack 512
trusted 8
share pool 100
share log 4096
compartment a
compartment b
object a a.o
archive a lib.a # two files
object b b.o
import a b f
import a b g
import b a main
export a main 0 64
export b f 6 4088
export b g 0 0
device a led 65280 8
device b clock 65532 4
give a pool r
give b pool rw
give b log r
start a main
`

// goodPlan is the plan of good.
func goodPlan() api.Plan {
	return api.Plan{
		Stack: 512, Trusted: 8, Start: 0, Main: "main",
		Shares: []api.Share{{Name: "pool", N: 100}, {Name: "log", N: 4096}},
		Compartments: []api.Compartment{
			{
				Name: "a", Files: []api.Source{{Name: "a.o"}, {Name: "lib.a", Archive: true}}, Exports: []api.Export{{Name: "main", Stack: 64}},
				Imports: []api.Import{{From: 1, Name: "f"}, {From: 1, Name: "g"}}, Devices: []api.Device{{Name: "led", At: 65280, N: 8}}, Gives: []api.Give{{Share: 0}},
			},
			{
				Name: "b", Files: []api.Source{{Name: "b.o"}}, Exports: []api.Export{{Name: "f", Args: 6, Stack: 4088}, {Name: "g"}},
				Imports: []api.Import{{From: 0, Name: "main"}}, Devices: []api.Device{{Name: "clock", At: 65532, N: 4}}, Gives: []api.Give{{Share: 0, Write: true}, {Share: 1}},
			},
		},
	}
}

func TestRead(t *testing.T) {
	p, line, e := plan.Read(good)
	if line != 0 || e != api.OK || !reflect.DeepEqual(p, goodPlan()) {
		t.Errorf("%+v, %d, %d", p, line, e)
	}
}

func TestPutForm(t *testing.T) {
	want := `stack 512
trusted 8
share pool 100
share log 4096
compartment a
object a a.o
archive a lib.a
export a main 0 64
device a led 65280 8
give a pool r
compartment b
object b b.o
export b f 6 4088
export b g 0 0
device b clock 65532 4
give b pool rw
give b log r
import a b f
import a b g
import b a main
start a main
`
	if s, e := plan.Put(goodPlan()); s != want || e != api.OK {
		t.Errorf("%s, %d", s, e)
	}
}

// each says a line for each number.
func each(n int, format string) string {
	var b strings.Builder
	for k := range n {
		fmt.Fprintf(&b, format+"\n", k)
	}
	return b.String()
}

const start = "stack 64\ntrusted 1\ncompartment a\nexport a main 0 0\nstart a main\n"

func TestReadErrors(t *testing.T) {
	for name, c := range map[string]struct {
		text string
		line int
		e    api.Errno
	}{
		"empty":                  {"", 0, api.ErrNone},
		"stack 60":               {"stack 60", 1, api.ErrForm},
		"compartment twice":      {"compartment a\ncompartment a", 2, api.ErrTwice},
		"object of none":         {"object a f", 1, api.ErrNone},
		"start alone":            {start, 0, api.OK},
		"lines' form":            {"compartment a\ncompartment a\n\x00", 0, api.ErrForm},
		"lines' limit":           {"stack 60\n" + strings.Repeat("\n", 400), 0, api.ErrLimit},
		"no such line":           {"\n\nstacks 64", 3, api.ErrForm},
		"too few words":          {"stack", 1, api.ErrForm},
		"too many words":         {"stack 64 64", 1, api.ErrForm},
		"stack 56":               {"stack 56", 1, api.ErrForm},
		"stack 65":               {"stack 65", 1, api.ErrForm},
		"stack 4096":             {"stack 4096", 1, api.ErrForm},
		"stack 4088":             {strings.Replace(start, "64", "4088", 1), 0, api.OK},
		"stack 0x40":             {strings.Replace(start, "64", "0x40", 1), 0, api.OK},
		"stack 064":              {"stack 064", 1, api.ErrForm},
		"stack beyond":           {"stack 4294967360", 1, api.ErrForm},
		"stack twice":            {start + "stack 64", 6, api.ErrTwice},
		"trusted 0":              {"trusted 0", 1, api.ErrForm},
		"trusted 61":             {"trusted 61", 1, api.ErrForm},
		"trusted 60":             {strings.Replace(start, "trusted 1", "trusted 60", 1), 0, api.OK},
		"trusted twice":          {start + "trusted 1", 6, api.ErrTwice},
		"start twice":            {start + "start a main", 6, api.ErrTwice},
		"start of none":          {"start a f", 1, api.ErrNone},
		"no stack":               {strings.Replace(start, "stack 64", "", 1), 0, api.ErrNone},
		"no trusted":             {strings.Replace(start, "trusted 1", "", 1), 0, api.ErrNone},
		"no start":               {strings.Replace(start, "start a main", "", 1), 0, api.ErrNone},
		"start of no export":     {strings.Replace(start, "export a main 0 0", "", 1), 0, api.ErrNone},
		"start has arguments":    {strings.Replace(start, "main 0 0", "main 1 0", 1), 0, api.ErrNone},
		"exported later":         {"stack 64\ntrusted 1\ncompartment a\nstart a m\nimport a a f\nexport a f 1 8\nexport a m 0 8", 0, api.OK},
		"imported, not exported": {start + "import a a f", 0, api.ErrNone},
		"a name with a digit":    {start + "compartment 1a", 6, api.ErrForm},
		"a great letter":         {start + "compartment A", 6, api.ErrForm},
		"16 bytes":               {start + "compartment a234567890_23456", 0, api.OK},
		"17 bytes":               {start + "compartment a2345678901234567", 6, api.ErrForm},
		"a point":                {start + "compartment a.b", 6, api.ErrForm},
		"form ahead of none":     {"object B f", 1, api.ErrForm},
		"a file of 32 bytes":     {start + "object a " + strings.Repeat("x", 32), 0, api.OK},
		"a file of 33 bytes":     {start + "object a " + strings.Repeat("x", 33), 6, api.ErrForm},
		"a file twice":           {start + "object a f\nobject a f", 7, api.ErrTwice},
		"a file, an archive":     {start + "object a f\narchive a f", 7, api.ErrTwice},
		"a file of two":          {start + "compartment b\nobject a f\nobject b f", 0, api.OK},
		"export, 7 arguments":    {start + "export a f 7 0", 6, api.ErrForm},
		"export, stack 4":        {start + "export a f 6 4", 6, api.ErrForm},
		"export, stack 4096":     {start + "export a f 6 4096", 6, api.ErrForm},
		"export, no number":      {start + "export a f x 0", 6, api.ErrForm},
		"export of none":         {start + "export b f 6 0", 6, api.ErrNone},
		"export twice":           {start + "export a main 6 0", 6, api.ErrTwice},
		"export of 33 bytes":     {start + "export a " + strings.Repeat("x", 33) + " 0 0", 6, api.ErrForm},
		"import of none":         {start + "import b a main", 6, api.ErrNone},
		"import from none":       {start + "import a b main", 6, api.ErrNone},
		"import twice":           {start + "import a a main\nimport a a main", 7, api.ErrTwice},
		"import, no name":        {start + "import a A main", 6, api.ErrForm},
		"device at 65276":        {start + "device a d 65276 8", 6, api.ErrForm},
		"device at 65282":        {start + "device a d 65282 4", 6, api.ErrForm},
		"device of 0":            {start + "device a d 65280 0", 6, api.ErrForm},
		"device of 6":            {start + "device a d 65280 6", 6, api.ErrForm},
		"device of 256":          {start + "device a d 65280 256", 0, api.OK},
		"device of 260":          {start + "device a d 65280 260", 6, api.ErrForm},
		"device beyond":          {start + "device a d 65532 8", 6, api.ErrForm},
		"device at 65536":        {start + "device a d 65536 4", 6, api.ErrForm},
		"device goes round":      {start + "device a d 65280 4294967292", 6, api.ErrForm},
		"device, no name":        {start + "device a D 65280 4", 6, api.ErrForm},
		"device of no one":       {start + "device b d 65280 4", 6, api.ErrNone},
		"device twice":           {start + "device a d 65280 4\ndevice a d 65284 4", 7, api.ErrTwice},
		"devices on one place":   {start + "device a d 65280 4\ndevice a e 65280 4", 0, api.OK},
		"share 0":                {start + "share r 0", 6, api.ErrForm},
		"share 4097":             {start + "share r 4097", 6, api.ErrForm},
		"share 1":                {start + "share r 1", 0, api.OK},
		"share, no name":         {start + "share R 1", 6, api.ErrForm},
		"share twice":            {start + "share r 1\nshare r 2", 7, api.ErrTwice},
		"give w":                 {start + "share r 1\ngive a r w", 7, api.ErrForm},
		"give of none":           {start + "give a r r", 6, api.ErrNone},
		"give to none":           {start + "share r 1\ngive b r r", 7, api.ErrNone},
		"give twice":             {start + "share r 1\ngive a r r\ngive a r rw", 8, api.ErrTwice},
		"12 compartments":        {start + each(11, "compartment c%d"), 0, api.OK},
		"13 compartments":        {start + each(12, "compartment c%d"), 17, api.ErrLimit},
		"twice ahead of limit":   {start + each(11, "compartment c%d") + "compartment a", 17, api.ErrTwice},
		"16 files":               {start + each(16, "object a f%d"), 0, api.OK},
		"17 files":               {start + each(17, "object a f%d"), 22, api.ErrLimit},
		"17 exports":             {start + each(16, "export a f%d 0 0"), 21, api.ErrLimit},
		"17 imports":             {start + each(17, "import a a f%d"), 22, api.ErrLimit},
		"17 devices":             {start + each(17, "device a d%d 65280 4"), 22, api.ErrLimit},
		"8 regions":              {start + each(8, "share r%d 8"), 0, api.OK},
		"9 regions":              {start + each(9, "share r%d 8"), 14, api.ErrLimit},
		"the first line":         {start + "x\ny", 6, api.ErrForm},
		"a symbol of any bytes":  {start + "export a !~()\" 0 0", 0, api.OK},
	} {
		p, line, e := plan.Read(c.text)
		if line != c.line || e != c.e || e != api.OK && !reflect.DeepEqual(p, api.Plan{}) {
			t.Errorf("%s: %d, %d", name, line, e)
		}
		if e == api.OK {
			again(t, name, p)
		}
	}
}

// again checks that a plan comes back of its text.
func again(t *testing.T, name string, p api.Plan) {
	t.Helper()
	s, e := plan.Put(p)
	if e != api.OK || !plan.May(p) {
		t.Errorf("%s: Put: %d", name, e)
	}
	if back, _, e := plan.Read(s); e != api.OK || !reflect.DeepEqual(back, p) {
		t.Errorf("%s: came back as %+v, %d", name, back, e)
	}
}

func TestMay(t *testing.T) {
	for name, c := range map[string]struct {
		change func(p *api.Plan)
		want   bool
	}{
		"as it is":             {func(p *api.Plan) {}, true},
		"empty lists":          {func(p *api.Plan) { p.Compartments[0].Imports = []api.Import{} }, true},
		"stack":                {func(p *api.Plan) { p.Stack = 60 }, false},
		"stack below 0":        {func(p *api.Plan) { p.Stack = -64 }, false},
		"trusted":              {func(p *api.Plan) { p.Trusted = 61 }, false},
		"main":                 {func(p *api.Plan) { p.Main = "nobody" }, false},
		"no main":              {func(p *api.Plan) { p.Main = "" }, false},
		"start":                {func(p *api.Plan) { p.Start = 2 }, false},
		"start -1":             {func(p *api.Plan) { p.Start = -1 }, false},
		"start's arguments":    {func(p *api.Plan) { p.Compartments[0].Exports[0].Args = 1 }, false},
		"a name":               {func(p *api.Plan) { p.Compartments[0].Name = "a b" }, false},
		"a name twice":         {func(p *api.Plan) { p.Compartments[0].Name = "b" }, false},
		"a remark":             {func(p *api.Plan) { p.Compartments[0].Files[0].Name = "#" }, false},
		"import from none":     {func(p *api.Plan) { p.Compartments[0].Imports[0].From = 9 }, false},
		"import from -1":       {func(p *api.Plan) { p.Compartments[0].Imports[0].From = -1 }, false},
		"import of none":       {func(p *api.Plan) { p.Compartments[0].Imports[0].Name = "x" }, false},
		"give of none":         {func(p *api.Plan) { p.Compartments[0].Gives[0].Share = 2 }, false},
		"give of -1":           {func(p *api.Plan) { p.Compartments[0].Gives[0].Share = -1 }, false},
		"device":               {func(p *api.Plan) { p.Compartments[0].Devices[0].At = 65279 }, false},
		"args":                 {func(p *api.Plan) { p.Compartments[1].Exports[0].Args = -1 }, false},
		"export's stack":       {func(p *api.Plan) { p.Compartments[1].Exports[0].Stack = 4096 }, false},
		"a share":              {func(p *api.Plan) { p.Shares[0].N = 0 }, false},
		"a share that is huge": {func(p *api.Plan) { p.Shares[0].N = 1<<32 + 100 }, false},
		"13 compartments": {func(p *api.Plan) {
			for k := range 11 {
				p.Compartments = append(p.Compartments, api.Compartment{Name: fmt.Sprint("c", k)})
			}
		}, false},
		"more lines than a text has": {func(p *api.Plan) {
			for k := range 10 {
				c := api.Compartment{Name: fmt.Sprint("c", k)}
				for i := range 16 {
					c.Files = append(c.Files, api.Source{Name: fmt.Sprint("f", i)})
					c.Exports = append(c.Exports, api.Export{Name: fmt.Sprint("x", i)})
					c.Devices = append(c.Devices, api.Device{Name: fmt.Sprint("d", i), At: 65280, N: 4})
				}
				p.Compartments = append(p.Compartments, c)
			}
		}, false},
	} {
		p := goodPlan()
		c.change(&p)
		if got := plan.May(p); got != c.want {
			t.Errorf("%s: %v", name, got)
		}
		if s, e := plan.Put(p); (e == api.OK) != c.want || !c.want && (e != api.ErrForm || s != "") {
			t.Errorf("%s: %q, %d", name, s, e)
		}
	}
	if plan.May(api.Plan{}) {
		t.Error("an empty plan")
	}
}
