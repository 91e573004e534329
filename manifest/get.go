package manifest

import (
	"strings"

	"bulwark/api"
	"bulwark/edges"
	"bulwark/lines"
	"bulwark/naming"
)

// reader is a graph that comes to be, line by line.
type reader struct {
	g      api.Graph
	number map[string]int
}

// row is what a line is: how many words it has, and what it does.
type row struct {
	words int
	do    func(w []string) api.Errno
}

// rows are what lines may be.
func (r *reader) rows() map[string]row {
	return map[string]row{
		"compartment": {2, r.compartment},
		"export":      {5, r.export},
		"call":        {4, r.call},
		"device":      {5, r.device},
		"share":       {4, r.share},
		"start":       {3, r.start},
	}
}

// numeral is the number of a word in tens.
func numeral(s string) (uint32, bool) {
	if strings.HasPrefix(s, "0x") {
		return 0, false
	}
	return lines.Number(s)
}

// two is a number of two words, the second one shifted. If it can't be, it is one that no edge has.
func two(low, high string, shift uint, limit uint32) (uint32, bool) {
	a, okA := numeral(low)
	b, okB := numeral(high)
	if !okA || !okB || a >= 1<<shift || b > limit {
		return 0, false
	}
	return a | b<<shift, true
}

// add puts one edge more: of compartments of these names (to is empty, where there is none).
func (r *reader) add(e api.Edge, ok bool, from, to string) api.Errno {
	if !ok || !naming.IsName(from) || !mayName(e.Kind, e.Name) || !mayWhat(e.Kind, e.What) {
		return api.ErrForm
	}
	e.To = nobody
	if e.Kind == api.EdgeCall {
		if !naming.IsName(to) {
			return api.ErrForm
		}
		k, there := r.number[to]
		if !there {
			return api.ErrNone
		}
		e.To = k
	}
	k, there := r.number[from]
	if !there {
		return api.ErrNone
	}
	e.From = k
	if n := len(r.g.Edges); n > 0 {
		order := edges.Compare(r.g.Edges[n-1], e)
		if order > 0 {
			return api.ErrForm
		}
		if order == 0 {
			return api.ErrTwice
		}
	}
	r.g.Edges = append(r.g.Edges, e)
	return api.OK
}

func (r *reader) compartment(w []string) api.Errno {
	if !naming.IsName(w[1]) || len(r.g.Edges) > 0 {
		return api.ErrForm
	}
	if _, twice := r.number[w[1]]; twice {
		return api.ErrTwice
	}
	r.number[w[1]] = len(r.g.Compartments)
	r.g.Compartments = append(r.g.Compartments, w[1])
	return api.OK
}

func (r *reader) export(w []string) api.Errno {
	what, ok := two(w[3], w[4], stackShift, api.MaxStack)
	return r.add(api.Edge{Kind: api.EdgeExport, Name: w[2], What: what}, ok, w[1], "")
}

func (r *reader) call(w []string) api.Errno {
	return r.add(api.Edge{Kind: api.EdgeCall, Name: w[3]}, true, w[1], w[2])
}

func (r *reader) device(w []string) api.Errno {
	what, ok := two(w[3], w[4], sizeShift, api.MaxMemory-api.Devices)
	return r.add(api.Edge{Kind: api.EdgeDevice, Name: w[2], What: what}, ok, w[1], "")
}

func (r *reader) share(w []string) api.Errno {
	e := api.Edge{Kind: api.EdgeShare, Name: w[2], What: mayRead}
	if w[3] == "rw" {
		e.What = mayWrite
	}
	return r.add(e, w[3] == "r" || w[3] == "rw", w[1], "")
}

func (r *reader) start(w []string) api.Errno {
	return r.add(api.Edge{Kind: api.EdgeStart, Name: w[2]}, true, w[1], "")
}

// Get answers the graph of a text; or what is wrong, and in which line.
func Get(text string) (api.Graph, int, api.Errno) {
	l, e := lines.Read(text)
	if e != api.OK {
		return api.Graph{}, 0, e
	}
	r := &reader{number: map[string]int{}}
	may := r.rows()
	for _, x := range l {
		row, known := may[x.Words[0]]
		if !known || len(x.Words) != row.words {
			return api.Graph{}, x.Line, api.ErrForm
		}
		if e := row.do(x.Words); e != api.OK {
			return api.Graph{}, x.Line, e
		}
	}
	return r.g, 0, api.OK
}
