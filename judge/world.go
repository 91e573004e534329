package judge

import (
	"math"

	"bulwark/api"
)

const (
	nobody     = -1
	stackShift = 8
	mayWrite   = 3
)

// world is a graph, of which each compartment's edges are at hand.
type world struct {
	number  map[string]int // of a compartment's name; the first one's, if it is there twice
	from    [][]api.Edge
	callers []int
}

func newWorld(g api.Graph) world {
	n := len(g.Compartments)
	w := world{number: map[string]int{}, from: make([][]api.Edge, n), callers: make([]int, n)}
	for k, name := range g.Compartments {
		if _, twice := w.number[name]; !twice {
			w.number[name] = k
		}
	}
	for _, e := range g.Edges {
		if w.has(e.From) {
			w.from[e.From] = append(w.from[e.From], e)
		}
		if e.Kind == api.EdgeCall && w.has(e.To) {
			w.callers[e.To]++
		}
	}
	return w
}

// has tells whether a number is a compartment's.
func (w *world) has(c int) bool { return c >= 0 && c < len(w.from) }

// edge tells whether a compartment has an edge of a kind that is as asked for.
func (w *world) edge(c int, kind uint8, is func(e api.Edge) bool) bool {
	if !w.has(c) {
		return false
	}
	for _, e := range w.from[c] {
		if e.Kind == kind && is(e) {
			return true
		}
	}
	return false
}

// reach tells whether one compartment is another one, or calls one that reaches it.
func (w *world) reach(from, to int) bool {
	if !w.has(from) || !w.has(to) {
		return false
	}
	seen := make([]bool, len(w.from))
	seen[from] = true
	for waiting := []int{from}; len(waiting) > 0 && !seen[to]; {
		c := waiting[len(waiting)-1]
		waiting = waiting[:len(waiting)-1]
		for _, e := range w.from[c] {
			if e.Kind == api.EdgeCall && w.has(e.To) && !seen[e.To] {
				seen[e.To] = true
				waiting = append(waiting, e.To)
			}
		}
	}
	return seen[to]
}

// count is how many edges of a kind a compartment has.
func (w *world) count(c int, kind uint8) float64 {
	n := 0
	for _, e := range w.from[c] {
		if e.Kind == kind {
			n++
		}
	}
	return float64(n)
}

// of is a number of a compartment.
func (w *world) of(c, what int) float64 {
	if !w.has(c) {
		return math.NaN()
	}
	switch what {
	case api.OfExports:
		return w.count(c, api.EdgeExport)
	case api.OfCalls:
		return w.count(c, api.EdgeCall)
	case api.OfCallers:
		return float64(w.callers[c])
	}
	most := math.Inf(-1)
	for _, e := range w.from[c] {
		if e.Kind == api.EdgeExport {
			most = max(most, float64(e.What>>stackShift))
		}
	}
	return most
}
