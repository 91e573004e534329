package policy

import (
	"slices"

	"bulwark/api"
	"bulwark/fold"
	"bulwark/lines"
	"bulwark/num"
)

// writer puts nodes as words. It goes through them as they stand, so that a list in which kids lead elsewhere ends it.
type writer struct {
	nodes  []api.Node
	at     int
	words  []string
	shapes []namedShape
}

// namedShape is a shape and its word.
type namedShape struct {
	word string
	shape
}

// allShapes are the shapes of formulas and numbers.
func allShapes() []namedShape {
	var l []namedShape
	for _, shapes := range []map[string]shape{formulas(), numbers()} {
		for word, s := range shapes {
			l = append(l, namedShape{word, s})
		}
	}
	return l
}

// find is the shape of a node. Just one is its, so that it does not matter in which order they stand.
func (w *writer) find(n api.Node) (namedShape, bool) {
	k := slices.IndexFunc(w.shapes, func(s namedShape) bool {
		return s.kind == n.Kind && s.rel == n.Rel && s.op == n.Op && s.of == n.Of
	})
	if k < 0 {
		return namedShape{}, false
	}
	return w.shapes[k], true
}

func (w *writer) say(words ...string) { w.words = append(w.words, words...) }

// node puts the next node, and its kids.
func (w *writer) node(k int) bool {
	if k != w.at || k >= len(w.nodes) {
		return false
	}
	w.at++
	n := w.nodes[k]
	switch n.Kind {
	case api.FormYes:
		w.say("yes")
		return true
	case api.FormNo:
		w.say("no")
		return true
	case api.NumText:
		w.say(num.Put(n.Value))
		return true
	}
	s, known := w.find(n)
	if !known {
		return false
	}
	w.say("(", s.word)
	w.names(n, s.parts)
	for _, kid := range n.Kids {
		if !w.node(kid) {
			return false
		}
	}
	w.say(")")
	return true
}

// names puts what of a node is no kid: it stands ahead of all kids.
func (w *writer) names(n api.Node, parts string) {
	for _, part := range parts {
		switch part {
		case partCompartment, partVariable:
			w.say(n.Name)
		case partOther, partSymbol, partNamed:
			w.say(n.Other)
		}
	}
}

// same tells whether two nodes are the same. All that are no number are one.
func same(a, b api.Node) bool {
	return a.Kind == b.Kind && a.Name == b.Name && a.Other == b.Other && a.Rel == b.Rel && a.Op == b.Op && a.Of == b.Of && num.Same(a.Value, b.Value) && slices.Equal(a.Kids, b.Kids)
}

// Put answers the text of nodes. Whether they are what Read answers is asked of Read itself.
func Put(l []api.Node) (string, api.Errno) {
	w := writer{nodes: l, shapes: allShapes()}
	if len(l) > maxNodes || !w.node(0) {
		return "", api.ErrForm
	}
	text, e := lines.Put(fold.Words(w.words))
	if e != api.OK {
		return "", api.ErrForm
	}
	if back, e := Read(text); e != api.OK || !slices.EqualFunc(back, l, same) {
		return "", api.ErrForm
	}
	return text, api.OK
}
