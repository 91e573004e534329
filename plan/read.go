package plan

import (
	"strings"

	"bulwark/api"
	"bulwark/lines"
	"bulwark/naming"
)

// Limits of a plan.
const (
	minStack        = 64
	eights          = 8
	maxArgs         = 6
	words           = 4
	maxShare        = 4096
	maxCompartments = 12
	maxOfEach       = 16
	maxShares       = 8
)

// reader is a plan that comes to be, line by line.
type reader struct{ p api.Plan }

// row is what a line is: how many words it has, and what it does.
type row struct {
	words int
	do    func(r *reader, w []string) api.Errno
}

// rows are what lines may be.
func rows() map[string]row {
	return map[string]row{
		"stack":       {2, (*reader).stack},
		"trusted":     {2, (*reader).trusted},
		"compartment": {2, (*reader).compartment},
		"object":      {3, (*reader).file},
		"archive":     {3, (*reader).file},
		"export":      {5, (*reader).export},
		"import":      {4, (*reader).imported},
		"device":      {5, (*reader).device},
		"share":       {3, (*reader).share},
		"give":        {4, (*reader).give},
		"start":       {3, (*reader).start},
	}
}

// find is the place of the first one of a list that is so, -1 of none.
func find[T any](l []T, is func(T) bool) int {
	for k, x := range l {
		if is(x) {
			return k
		}
	}
	return -1
}

// add puts one more in a list, if none is there that says the same, and there is room.
func add[T any](l *[]T, x T, same func(T) bool, limit int) api.Errno {
	if find(*l, same) >= 0 {
		return api.ErrTwice
	}
	if len(*l) >= limit {
		return api.ErrLimit
	}
	*l = append(*l, x)
	return api.OK
}

// number is the number of a word, if it is from low to high, and a multiple of step.
func number(s string, low, high, step int) (int, bool) {
	n, ok := lines.Number(s)
	if !ok || int64(n) < int64(low) || int64(n) > int64(high) || n%uint32(step) != 0 {
		return 0, false
	}
	return int(n), true
}

// named is the compartment of a name.
func (r *reader) named(name string) (*api.Compartment, int) {
	k := find(r.p.Compartments, func(c api.Compartment) bool { return c.Name == name })
	if k < 0 {
		return nil, k
	}
	return &r.p.Compartments[k], k
}

// once sets a number that stands once.
func once(to *int, s string, low, high, step int) api.Errno {
	n, ok := number(s, low, high, step)
	if !ok {
		return api.ErrForm
	}
	if *to != 0 {
		return api.ErrTwice
	}
	*to = n
	return api.OK
}

func (r *reader) stack(w []string) api.Errno {
	return once(&r.p.Stack, w[1], minStack, api.MaxStack, eights)
}

func (r *reader) trusted(w []string) api.Errno {
	return once(&r.p.Trusted, w[1], 1, api.MaxTrusted, 1)
}

func (r *reader) compartment(w []string) api.Errno {
	if !naming.IsName(w[1]) {
		return api.ErrForm
	}
	return add(&r.p.Compartments, api.Compartment{Name: w[1]}, func(c api.Compartment) bool { return c.Name == w[1] }, maxCompartments)
}

func (r *reader) file(w []string) api.Errno {
	if !naming.IsName(w[1]) || !naming.IsSymbol(w[2]) {
		return api.ErrForm
	}
	c, k := r.named(w[1])
	if k < 0 {
		return api.ErrNone
	}
	return add(&c.Files, api.Source{Name: w[2], Archive: w[0] == "archive"}, func(s api.Source) bool { return s.Name == w[2] }, maxOfEach)
}

func (r *reader) export(w []string) api.Errno {
	args, argsOK := number(w[3], 0, maxArgs, 1)
	stack, stackOK := number(w[4], 0, api.MaxStack, eights)
	if !naming.IsName(w[1]) || !naming.IsSymbol(w[2]) || !argsOK || !stackOK {
		return api.ErrForm
	}
	c, k := r.named(w[1])
	if k < 0 {
		return api.ErrNone
	}
	return add(&c.Exports, api.Export{Name: w[2], Args: args, Stack: stack}, func(x api.Export) bool { return x.Name == w[2] }, maxOfEach)
}

func (r *reader) imported(w []string) api.Errno {
	if !naming.IsName(w[1]) || !naming.IsName(w[2]) || !naming.IsSymbol(w[3]) {
		return api.ErrForm
	}
	c, k := r.named(w[1])
	_, from := r.named(w[2])
	if k < 0 || from < 0 {
		return api.ErrNone
	}
	x := api.Import{From: from, Name: w[3]}
	return add(&c.Imports, x, func(y api.Import) bool { return x == y }, maxOfEach)
}

func (r *reader) device(w []string) api.Errno {
	at, atOK := number(w[3], api.Devices, api.MaxMemory-words, words)
	n, nOK := number(w[4], words, api.MaxMemory-api.Devices, words)
	if !naming.IsName(w[1]) || !naming.IsName(w[2]) || !atOK || !nOK || at+n > api.MaxMemory {
		return api.ErrForm
	}
	c, k := r.named(w[1])
	if k < 0 {
		return api.ErrNone
	}
	return add(&c.Devices, api.Device{Name: w[2], At: uint32(at), N: uint32(n)}, func(d api.Device) bool { return d.Name == w[2] }, maxOfEach)
}

func (r *reader) share(w []string) api.Errno {
	n, ok := number(w[2], 1, maxShare, 1)
	if !naming.IsName(w[1]) || !ok {
		return api.ErrForm
	}
	return add(&r.p.Shares, api.Share{Name: w[1], N: n}, func(s api.Share) bool { return s.Name == w[1] }, maxShares)
}

func (r *reader) give(w []string) api.Errno {
	if !naming.IsName(w[1]) || !naming.IsName(w[2]) || w[3] != "r" && w[3] != "rw" {
		return api.ErrForm
	}
	c, k := r.named(w[1])
	share := find(r.p.Shares, func(s api.Share) bool { return s.Name == w[2] })
	if k < 0 || share < 0 {
		return api.ErrNone
	}
	return add(&c.Gives, api.Give{Share: share, Write: w[3] == "rw"}, func(g api.Give) bool { return g.Share == share }, maxOfEach)
}

func (r *reader) start(w []string) api.Errno {
	if !naming.IsName(w[1]) || !naming.IsSymbol(w[2]) {
		return api.ErrForm
	}
	_, k := r.named(w[1])
	if k < 0 {
		return api.ErrNone
	}
	if r.p.Main != "" {
		return api.ErrTwice
	}
	r.p.Start, r.p.Main = k, strings.Clone(w[2])
	return api.OK
}

// exported is what a compartment exports as a name.
func (r *reader) exported(c int, name string) (api.Export, bool) {
	l := r.p.Compartments[c].Exports
	k := find(l, func(x api.Export) bool { return x.Name == name })
	if k < 0 {
		return api.Export{}, false
	}
	return l[k], true
}

// whole tells whether all is there that a plan needs.
func (r *reader) whole() bool {
	if r.p.Stack == 0 || r.p.Trusted == 0 || r.p.Main == "" {
		return false
	}
	for _, c := range r.p.Compartments {
		for _, x := range c.Imports {
			if _, there := r.exported(x.From, x.Name); !there {
				return false
			}
		}
	}
	main, there := r.exported(r.p.Start, r.p.Main)
	return there && main.Args == 0
}
