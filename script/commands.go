package script

import (
	"strconv"
	"strings"

	"bulwark/api"
	"bulwark/fold"
	"bulwark/graph"
	"bulwark/image"
	"bulwark/judge"
	"bulwark/lines"
	"bulwark/link"
	"bulwark/manifest"
	"bulwark/policy"
	"bulwark/run"
	"bulwark/watch"
)

const (
	fuel     = 100000
	maxCount = 1<<31 - 1
	timer    = "t"
	tagged   = "*"
)

func okay() []string { return []string{"ok"} }

func tens(n int) string { return strconv.Itoa(n) }

// plan puts a line more behind the plan's text.
func (s *Session) plan(w []string) ([]string, api.Errno) {
	s.text = append(append(s.text, strings.Join(w, " ")...), end)
	return okay(), api.OK
}

// file puts a file more behind the others.
func (s *Session) file(w []string) ([]string, api.Errno) {
	b, ok := hexBytes(w[1])
	if !ok {
		return nil, api.ErrForm
	}
	s.files = append(s.files, api.File{Name: strings.Clone(w[0]), Bytes: b})
	return okay(), api.OK
}

// link links what was told, and makes a machine of it.
func (s *Session) link([]string) ([]string, api.Errno) {
	i, f := link.Link(string(s.text), s.files)
	if f.E != api.OK {
		name := f.Name
		if name == "" {
			name = none
		}
		return []string{strings.Join([]string{refused(f.E)[0], tens(f.What), tens(f.Line), name}, " ")}, api.OK
	}
	m, e := run.New(i)
	if e != api.OK {
		return nil, e
	}
	s.image, s.machine = i, m
	return []string{"ok " + tens(len(i.Regions))}, api.OK
}

// bytes tells the image's bytes.
func (s *Session) bytes([]string) ([]string, api.Errno) {
	b, e := image.Put(s.image)
	if e != api.OK {
		return nil, e
	}
	return []string{hexText(b)}, api.OK
}

// manifest tells the graph that the image's bytes tell.
func (s *Session) manifest([]string) ([]string, api.Errno) {
	g, e := graph.Of(s.image)
	if e != api.OK {
		return nil, e
	}
	text, e := manifest.Put(g)
	if e != api.OK {
		return nil, e
	}
	return strings.Split(strings.TrimSuffix(text, "\n"), "\n"), api.OK
}

// policy tells whether a policy holds of the image.
func (s *Session) policy(w []string) ([]string, api.Errno) {
	text, e := lines.Put(fold.Words(w))
	if e != api.OK {
		return nil, e
	}
	l, e := policy.Read(text)
	if e != api.OK {
		return nil, e
	}
	g, e := graph.Of(s.image)
	if e != api.OK {
		return nil, e
	}
	holds, e := judge.Holds(g, l, fuel)
	if e != api.OK {
		return nil, e
	}
	if holds {
		return []string{"yes"}, api.OK
	}
	return []string{"no"}, api.OK
}

// count is a number of steps, of bytes.
func count(w string) (int, bool) {
	n, ok := lines.Number(w)
	if !ok || n > maxCount {
		return 0, false
	}
	return int(n), true
}

// rounds are those that words tell.
func rounds(w []string) ([]api.Round, bool) {
	var l []api.Round
	for _, x := range w {
		n, ok := lines.Number(x)
		if !ok && x != timer {
			return nil, false
		}
		l = append(l, api.Round{Timer: x == timer, Answer: n})
	}
	return l, true
}

// run does the next steps.
func (s *Session) run(w []string) ([]string, api.Errno) {
	n, ok := count(w[0])
	if !ok || len(w)-1 > n {
		return nil, api.ErrForm
	}
	l, ok := rounds(w[1:])
	if !ok {
		return nil, api.ErrForm
	}
	done, e := s.machine.Run(l, n)
	if e != api.OK {
		return nil, e
	}
	return []string{"ran " + tens(len(done))}, api.OK
}

// regs tells the registers.
func (s *Session) regs([]string) ([]string, api.Errno) {
	var l []string
	for _, c := range s.machine.State().Regs {
		x := strconv.FormatUint(uint64(c.Addr), 16)
		if c.Tag {
			x += tagged
		}
		l = append(l, x)
	}
	return []string{strings.Join(l, " ")}, api.OK
}

// load tells bytes of memory.
func (s *Session) load(w []string) ([]string, api.Errno) {
	at, ok := lines.Number(w[0])
	n, few := count(w[1])
	if !ok || !few {
		return nil, api.ErrForm
	}
	b, e := s.machine.Memory().Bytes(int(at), n)
	if e != api.OK {
		return nil, e
	}
	return []string{hexText(b)}, api.OK
}

// owner tells who runs.
func (s *Session) owner([]string) ([]string, api.Errno) {
	switch c := watch.Owner(s.image.Regions, s.machine.State()); c {
	case api.OwnSwitch:
		return []string{"switch"}, api.OK
	case api.OwnNone:
		return []string{"none"}, api.OK
	default:
		return []string{s.image.Plan.Compartments[c].Name}, api.OK
	}
}
