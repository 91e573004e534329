package script_test

import (
	"encoding/hex"
	"fmt"
	"math/rand"
	"reflect"
	"slices"
	"strings"
	"testing"

	"bulwark/api"
	"bulwark/graph"
	"bulwark/image"
	"bulwark/kit"
	"bulwark/link"
	"bulwark/manifest"
	"bulwark/run"
	"bulwark/script"
	"bulwark/tables"
)

const planText = `stack 128
trusted 4
share pool 40
compartment a
compartment b
object a a.o
object b b.o
export a main 0 0
export b f 2 32
import a b f
device a led 65280 8
give b pool rw
start a main
`

// a calls b's f with 5 and what the led says, and stores the sum to the led.
const aText = ".section .text 6 4\n.global main\nmain: addi c10 c0 5\n"

func aFile() api.File {
	return kit.File("a.o", aText+kit.Slot("d", "c4", "device.led")+"lw c11 0 of c4\n"+kit.Call("m", "import.b.f")+kit.Slot("e", "c4", "device.led")+"sw c10 4 of c4\nrest: cjal c0 0 @17 rest\n.section .data 3 8\n.word 0x11223344\n")
}

func bFile() api.File {
	return kit.File("b.o", ".section .text 6 4\n.global f\nf: add c10 c10 c11\naddi c11 c0 0\ncjalr c0 0 of c1\n")
}

func told(f api.File) string {
	h := hex.EncodeToString(f.Bytes)
	if h == "" {
		h = "-"
	}
	return "file " + f.Name + " " + h
}

// lines are the lines that tell all.
func lines() []string {
	var l []string
	for _, x := range strings.Split(strings.TrimSuffix(planText, "\n"), "\n") {
		l = append(l, "plan "+x)
	}
	return append(l, told(aFile()), told(bFile()))
}

func linked(t *testing.T) api.Image {
	t.Helper()
	i, f := link.Link(planText, []api.File{aFile(), bFile()})
	if f != (api.Fault{}) {
		t.Fatalf("%+v", f)
	}
	return i
}

// do does a line, and answers what is answered, joined.
func do(t *testing.T, s *script.Session, line string) string {
	t.Helper()
	l, e := s.Do(line)
	if e != api.OK {
		t.Fatalf("%.40q: %d", line, e)
	}
	return strings.Join(l, "\n")
}

// session is one in which all is told and linked.
func session(t *testing.T) *script.Session {
	t.Helper()
	s := script.New()
	for _, x := range lines() {
		if got := do(t, s, x); got != "ok" {
			t.Fatalf("%.40q: %s", x, got)
		}
	}
	if got, want := do(t, s, "link"), fmt.Sprintf("ok %d", len(linked(t).Regions)); got != want {
		t.Fatalf("link: %s, not %s", got, want)
	}
	return s
}

func TestExample(t *testing.T) {
	for text, want := range map[string]string{
		"link\nowner":                      "> link\n= error 6 1 0 -\n> owner\n= error 6\n",
		"link\nowner\n":                    "> link\n= error 6 1 0 -\n> owner\n= error 6\n",
		"":                                 "",
		"\n":                               "> \n",
		"\n\n":                             "> \n> \n",
		"\n\nx":                            "> \n> \n> x\n= error 5\n",
		"  \t# nothing":                    ">   \t# nothing\n",
		"link\r\n":                         "> link\r\n= error 5\n",
		"\xff\n#\x00\n":                    "> \xff\n= error 5\n> #\x00\n= error 5\n",
		"plan stack 64":                    "> plan stack 64\n= ok\n",
		"plan x\nlink":                     "> plan x\n= ok\n> link\n= error 5 1 1 -\n",
		strings.Repeat(" ", 100000):        "> " + strings.Repeat(" ", 100000) + "\n",
		strings.Repeat(" ", 100001):        "> " + strings.Repeat(" ", 100001) + "\n= error 3\n",
		strings.Repeat("x", 100001) + "\n": "> " + strings.Repeat("x", 100001) + "\n= error 3\n",
	} {
		if got := script.Run(text); got != want {
			t.Errorf("%.40q: %.100q, not %.100q", text, got, want)
		}
	}
}

func TestOfNothing(t *testing.T) {
	var none *script.Session
	for name, s := range map[string]*script.Session{"nil": none, "zero": {}} {
		for _, line := range []string{"", "link", strings.Repeat("x", 100001)} {
			if l, e := s.Do(line); e != api.ErrNil || len(l) != 0 {
				t.Errorf("%s: %.20q: %v, %d", name, line, l, e)
			}
		}
	}
	s := script.New()
	if l, e := s.Do(strings.Repeat("#", 100001)); e != api.ErrLimit || len(l) != 0 {
		t.Errorf("%v, %d", l, e)
	}
	if l, e := s.Do(strings.Repeat("#", 100000)); e != api.OK || len(l) != 0 {
		t.Errorf("%v, %d", l, e)
	}
	for _, line := range []string{"", " ", "\t", "#", "# link", " #link x"} {
		if l, e := s.Do(line); e != api.OK || len(l) != 0 {
			t.Errorf("%q: %v, %d", line, l, e)
		}
	}
}

// Lines that are no command; and commands that need an image, of which there is none.
func TestWithoutAnImage(t *testing.T) {
	for line, want := range map[string]string{
		"x": "error 5", "Link": "error 5", "link x": "error 5", "link # x": "error 6 1 0 -", "link\n": "error 5", "plan\x7f": "error 5", "plan \u00e9": "error 5", "link \x00": "error 5", "link # \x00": "error 5",
		"file": "error 5", "file a": "error 5", "file a 00 11": "error 5", "file a 0": "error 5", "file a 0g": "error 5", "file a AB": "error 5", "file a 0x00": "error 5", "file a --": "error 5", "file a -00": "error 5", "file a +1": "error 5", "file a 0_": "error 5",
		"file a -": "ok", "file a 00": "ok", "\tfile  a\tff00 # so": "ok", "plan": "ok", "plan x # y": "ok",
		"image": "error 6", "manifest": "error 6", "regs": "error 6", "owner": "error 6", "policy yes": "error 6", "policy": "error 6", "policy (": "error 6", "run 1": "error 6", "load 0 1": "error 6",
		"image x": "error 5", "manifest x": "error 5", "regs x": "error 5", "owner x": "error 5", "run": "error 5", "load": "error 5", "load 0": "error 5", "load 0 1 2": "error 5",
		"run x": "error 6", "run 1 x": "error 6", "run 1 2 3": "error 6", "run 01": "error 6", "run 4294967296": "error 6", "load x y": "error 6", "load 0 2147483648": "error 6",
	} {
		s := script.New()
		if got := do(t, s, line); got != want {
			t.Errorf("%q: %s, not %s", line, got, want)
		}
	}
}

func TestLinkFaults(t *testing.T) {
	for name, c := range map[string]struct {
		change func(l []string) []string
		want   string
	}{
		"as it is":            {func(l []string) []string { return l }, "ok 10"},
		"nothing":             {func(l []string) []string { return nil }, "error 6 1 0 -"},
		"a line of the plan":  {func(l []string) []string { return append([]string{"plan # nothing", "plan", "plan stack 60"}, l...) }, "error 5 1 3 -"},
		"a long line":         {func(l []string) []string { return append(l, "plan "+strings.Repeat("x", 101)) }, "error 3 1 0 -"},
		"a line of 100 bytes": {func(l []string) []string { return append(l, "plan "+strings.Repeat("x", 100)) }, "error 5 1 14 -"},
		"blanks are one":      {func(l []string) []string { return append(l, "plan x"+strings.Repeat(" \t", 100)+"y") }, "error 5 1 14 -"},
		"many lines":          {func(l []string) []string { return append(l, slices.Repeat([]string{"plan"}, 388)...) }, "error 3 1 0 -"},
		"400 lines":           {func(l []string) []string { return append(l, slices.Repeat([]string{"plan"}, 387)...) }, "ok 10"},
		"no file":             {func(l []string) []string { return l[:len(l)-1] }, "error 6 2 0 b.o"},
		"a file twice":        {func(l []string) []string { return append(l, "file a.o -") }, "error 7 2 0 a.o"},
		"a file of none":      {func(l []string) []string { return append(l[:len(l)-1], "file b.o -") }, "error 4 2 0 b"},
		"other bytes":         {func(l []string) []string { return append(l[:len(l)-1], "file b.o "+strings.Repeat("00", 60)) }, "error 5 2 0 b"},
		"a file more":         {func(l []string) []string { return append(l, "file c.o -", "file c.o 00") }, "ok 10"},
		"no symbol":           {func(l []string) []string { l[8] = "plan export b g 2 32"; l[9] = "plan import a b g"; return l }, "error 6 3 0 import.b.f"},
		"no export":           {func(l []string) []string { return append(l, "plan export b g 2 32") }, "error 6 5 0 g"},
	} {
		s := script.New()
		for _, x := range c.change(lines()) {
			if got := do(t, s, x); got != "ok" {
				t.Errorf("%s: %.40q: %s", name, x, got)
			}
		}
		if got := do(t, s, "link"); got != c.want {
			t.Errorf("%s: %s, not %s", name, got, c.want)
		}
	}
}

func TestImageAndManifest(t *testing.T) {
	s, i := session(t), linked(t)
	b, _ := image.Put(i)
	if got := do(t, s, "image"); got != hex.EncodeToString(b) {
		t.Errorf("image: %.60s", got)
	}
	g, _ := graph.Plan(i.Plan)
	text, _ := manifest.Put(g)
	if got := do(t, s, "manifest"); got+"\n" != text || !strings.HasPrefix(got, "compartment a\ncompartment b\nexport a main 0 0\n") {
		t.Errorf("manifest: %s", got)
	}
	// It is told by the bytes, and a machine that runs changes nothing.
	do(t, s, "run 500")
	if got := do(t, s, "manifest"); got+"\n" != text {
		t.Errorf("manifest: %s", got)
	}
	if got := do(t, s, "image"); got != hex.EncodeToString(b) {
		t.Errorf("image: %.60s", got)
	}
}

func TestPolicy(t *testing.T) {
	s := session(t)
	for line, want := range map[string]string{
		"policy yes": "yes", "policy no": "no", "policy ( call a b )": "yes", "policy ( call b a )": "no", "policy\t( all A   ( if ( reach A b ) ( is A a ) ) ) # b reaches itself": "no", "policy ( all A ( if ( reach A b ) ( or ( is A a ) ( is A b ) ) ) )": "yes",
		"policy": "error 5", "policy (": "error 5", "policy maybe": "error 5", "policy ( call A b )": "error 6", "policy ( start c )": "no", "policy ( write b pool )": "yes", "policy ( same ( stack b ) 32 )": "yes",
		// Lines end where they would be above 100 bytes.
		"policy ( and " + strings.Repeat("yes ", 398) + ")": "yes", "policy ( and " + strings.Repeat("yes ", 398) + "no )": "no", "policy ( and " + strings.Repeat("yes ", 400) + ")": "error 3",
		"policy ( export b " + strings.Repeat("f", 32) + " )": "no", "policy ( export b " + strings.Repeat("f", 33) + " )": "error 5", "policy ( export b " + strings.Repeat("f", 100) + " )": "error 5", "policy ( export b " + strings.Repeat("f", 101) + " )": "error 3",
		"policy " + strings.Repeat("( and ", 40) + strings.Repeat(") ", 40): "yes", "policy " + strings.Repeat("( and ", 41) + strings.Repeat(") ", 41): "error 3", "policy " + strings.Repeat(strings.Repeat("x", 60)+" ", 400): "error 5", "policy " + strings.Repeat(strings.Repeat("x", 60)+" ", 401): "error 3",
	} {
		if got := do(t, s, line); got != want {
			t.Errorf("%.60s: %s, not %s", line, got, want)
		}
	}
	all := func(n int) string {
		text := "policy"
		for k := range n {
			text += fmt.Sprintf(" ( all A%d", k)
		}
		return text + " yes" + strings.Repeat(" )", n)
	}
	// Two compartments: 2^17 - 1 nodes are more than there is fuel, 2^16 - 1 are not.
	if got := do(t, s, all(16)); got != "error 9" {
		t.Errorf("fuel: %s", got)
	}
	if got := do(t, s, all(15)); got != "yes" {
		t.Errorf("fuel: %s", got)
	}
}

func TestRunAndRegs(t *testing.T) {
	s, i := session(t), linked(t)
	m, _ := run.New(i)
	regs := func() string {
		var l []string
		for _, c := range m.State().Regs {
			x := fmt.Sprintf("%x", c.Addr)
			if c.Tag {
				x += "*"
			}
			l = append(l, x)
		}
		return strings.Join(l, " ")
	}
	for k, c := range []struct {
		line   string
		rounds []api.Round
		steps  int
	}{
		{"run 0", nil, 0}, {"run 1", nil, 1}, {"run 2", nil, 2}, {"run 1 0x25", []api.Round{{Answer: 37}}, 1}, {"run 3 1 t", []api.Round{{Answer: 1}, {Timer: true}}, 3}, {"run 0x10 4294967295 0 0xffffffff t t", []api.Round{{Answer: 1<<32 - 1}, {}, {Answer: 1<<32 - 1}, {Timer: true}, {Timer: true}}, 16}, {"run 600", nil, 600}, {"run 1 t", []api.Round{{Timer: true}}, 1}, {"run 100000", nil, 100000},
	} {
		if got, want := do(t, s, c.line), fmt.Sprintf("ran %d", c.steps); got != want {
			t.Errorf("%s: %s", c.line, got)
		}
		m.Run(c.rounds, c.steps)
		if got := do(t, s, "regs"); got != regs() {
			t.Errorf("%d: %s: %s, not %s", k, c.line, got, regs())
		}
	}
	if got := do(t, s, "regs"); len(strings.Fields(got)) != 16 || strings.Fields(got)[10] != "2a" || !strings.HasSuffix(strings.Fields(got)[2], "*") {
		t.Errorf("%s", got)
	}
	for line, want := range map[string]string{
		"run 1 2 3": "error 5", "run 0 1": "error 5", "run x": "error 5", "run -1": "error 5", "run 01": "error 5", "run t": "error 5", "run 1 x": "error 5", "run 1 T": "error 5", "run 1 4294967296": "error 5", "run 1 01": "error 5", "run 2147483648": "error 5", "run 2147483647": "error 2", "run 100001": "error 2", "run 100001 x": "error 5", "run 100001 1": "error 2", "run 0x100": "ran 256", "run 0xAB": "error 5",
	} {
		if got := do(t, s, line); got != want {
			t.Errorf("%s: %s, not %s", line, got, want)
		}
	}
}

// How many steps are done is told, also of a machine that halts. A linked one never does: the switcher's trap is always there.
func TestRanIsWhatWasDone(t *testing.T) {
	s := session(t)
	before := do(t, s, "regs")
	for _, line := range []string{"run 100001", "run 5 x", "run 1 2 3"} {
		do(t, s, line)
	}
	if do(t, s, "regs") != before {
		t.Error("what was refused was done")
	}
	if do(t, s, "run 7") != "ran 7" || do(t, s, "regs") == before {
		t.Error("nothing was done")
	}
}

func TestLoad(t *testing.T) {
	s, i := session(t), linked(t)
	data, _ := tables.Region(i.Regions, api.RegData, 0)
	for line, want := range map[string]string{
		fmt.Sprintf("load %d 4", data.At): "44332211", fmt.Sprintf("load 0x%x 2", data.At+1): "3322", "load 0 0": "-", "load 65536 0": "-", "load 0 3": "000000", "load 65535 1": "00", "load 64 8": hex.EncodeToString(i.Bytes[64:72]), "load 0 65280": hex.EncodeToString(i.Bytes), "load 0 65536": hex.EncodeToString(i.Bytes) + strings.Repeat("00", 256),
		"load 65536 1": "error 2", "load 0 65537": "error 2", "load 65537 0": "error 2", "load 4294967295 2147483647": "error 2", "load 0 2147483648": "error 5", "load 4294967296 0": "error 5", "load x 0": "error 5", "load 0 x": "error 5", "load 0 01": "error 5", "load -1 1": "error 5", "load 0 -": "error 5",
	} {
		if got := do(t, s, line); got != want {
			t.Errorf("%s: %.60s, not %.60s", line, got, want)
		}
	}
}

func TestOwner(t *testing.T) {
	s := session(t)
	var seen []string
	for range 700 {
		if o := do(t, s, "owner"); len(seen) == 0 || seen[len(seen)-1] != o {
			seen = append(seen, o)
		}
		do(t, s, "run 1")
	}
	if !slices.Equal(seen, []string{"a", "switch", "b", "switch", "a"}) {
		t.Errorf("%v", seen)
	}
	s = script.New()
	for _, line := range []string{"plan stack 64", "plan trusted 1", "plan compartment a", "plan object a a.o", "plan export a m 0 0", "plan start a m", told(kit.File("a.o", ".section .text 6 4\n.global m\nm: cjal c0 524288\n")), "link", "run 1"} {
		do(t, s, line)
	}
	if got := do(t, s, "owner"); got != "none" {
		t.Errorf("%s", got)
	}
}

// What was there stays, when link finds a fault; else there are a new image and a new machine.
func TestLinkAgain(t *testing.T) {
	s := session(t)
	first := do(t, s, "regs")
	do(t, s, "run 40")
	there, bytes := do(t, s, "regs"), do(t, s, "image")
	do(t, s, "plan export a g 0 0")
	if got := do(t, s, "link"); got != "error 6 5 0 g" {
		t.Errorf("%s", got)
	}
	if do(t, s, "regs") != there || do(t, s, "image") != bytes || first == there {
		t.Error("what was there did not stay")
	}
	s = session(t)
	do(t, s, "run 40")
	do(t, s, "plan share more 8")
	if got := do(t, s, "link"); got != "ok 11" {
		t.Errorf("%s", got)
	}
	if do(t, s, "image") == bytes || do(t, s, "owner") != "a" || do(t, s, "run 1") != "ran 1" {
		t.Error("the old image")
	}
	s = session(t)
	do(t, s, "run 40")
	do(t, s, "link")
	if do(t, s, "regs") != first {
		t.Error("the machine does not begin anew")
	}
}

// In whatever order files are told, the image is the same.
func TestOrderOfFiles(t *testing.T) {
	want := do(t, session(t), "image")
	l := lines()
	n := len(l)
	l[n-1], l[n-2] = l[n-2], l[n-1]
	l = append([]string{l[n-1]}, l[:n-1]...)
	s := script.New()
	for _, x := range append(l, "link") {
		do(t, s, x)
	}
	if do(t, s, "image") != want {
		t.Error("another image")
	}
}

// Run is Do, line by line; the same of the same, whatever the lines.
func TestRunIsDo(t *testing.T) {
	r := rand.New(rand.NewSource(28))
	parts := append(lines(), "link", "link", "link", "image", "manifest", "policy yes", "policy ( some A ( start A ) )", "run 30", "run 5 t 7", "run 200", "regs", "load 64 16", "owner", "", "# so", "what", "run 100001", "file c.o 0g", "plan\x01", "load 0 70000")
	for k := range 200 {
		var all []string
		if k%4 > 0 {
			all = append(lines(), "link")
		}
		for range r.Intn(30) {
			x := parts[r.Intn(len(parts))]
			if r.Intn(6) == 0 && len(x) > 0 {
				b := []byte(x)
				b[r.Intn(len(b))] = byte(r.Intn(256))
				x = strings.ReplaceAll(string(b), "\n", " ")
			}
			all = append(all, x)
		}
		text := strings.Join(all, "\n")
		if text != "" && r.Intn(2) == 0 {
			text += "\n"
		}
		var want strings.Builder
		s := script.New()
		lines := strings.Split(text, "\n")
		if lines[len(lines)-1] == "" {
			lines = lines[:len(lines)-1]
		}
		for _, x := range lines {
			want.WriteString("> " + x + "\n")
			l, e := s.Do(x)
			if e != api.OK {
				t.Fatalf("%q: %d", x, e)
			}
			for _, y := range l {
				if strings.Contains(y, "\n") || y == "" {
					t.Fatalf("%q: %q is no line", x, y)
				}
				want.WriteString("= " + y + "\n")
			}
		}
		got := script.Run(text)
		if got != want.String() || script.Run(text) != got {
			t.Fatalf("%.200q: %.200q", text, got)
		}
	}
}

// Sessions share nothing, and nothing of an answer is the session's own.
func TestNothingIsShared(t *testing.T) {
	a, b := session(t), session(t)
	do(t, a, "run 100")
	if do(t, b, "regs") != do(t, session(t), "regs") {
		t.Error("two sessions share")
	}
	l, _ := b.Do("manifest")
	for k := range l {
		l[k] = "x"
	}
	if again, _ := b.Do("manifest"); slices.Contains(again, "x") || reflect.DeepEqual(again, l) {
		t.Error("the answer is the session's own")
	}
}
