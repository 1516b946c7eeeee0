package check

import (
	"bonsai/api"
	"bonsai/expr"
	"bonsai/first"
	"bonsai/flow"
	"bonsai/tree"
)

// site is what stands at a step's place: a node, and its kids; up puts a tree there, and tells the body that comes of it.
type site struct {
	g    api.Grammar
	at   int
	n    api.Node
	kids []api.Tree
	up   func(x api.Tree) api.Tree
}

// find goes down to a step's place.
func find(g api.Grammar, s api.Step) (*site, bool) {
	if s.Rule < 0 || s.Rule >= len(g.Rules) {
		return nil, false
	}
	t := g.Rules[s.Rule].Body
	// What becomes the whole body has no node above that it is put together with, and need not be clean: another rule's body stands in its arena as it likes.
	up := func(x api.Tree) api.Tree {
		x, _ = expr.Make(x)
		return x
	}
	for _, i := range s.Path {
		n, kids := tree.Root(t), tree.Kids(t)
		if i < 0 || i >= len(kids) {
			return nil, false
		}
		above := up
		up = func(x api.Tree) api.Tree {
			kids[i] = x
			return above(together(n, kids))
		}
		t = kids[i]
	}
	return &site{g: g, at: s.At, n: tree.Root(t), kids: tree.Kids(t), up: up}, true
}

// together is a node of kids, put together as normal trees are.
func together(n api.Node, kids []api.Tree) api.Tree {
	var out api.Tree
	switch n.Kind {
	case api.Seq:
		out, _ = expr.Seq(kids)
	case api.Choice:
		out, _ = expr.Choice(kids)
	default:
		out, _ = tree.Of(n, kids)
	}
	return out
}

// only tells whether a node of that kind stands there, and At names nothing.
func (w *site) only(kind uint8) bool { return w.n.Kind == kind && w.at == 0 }

// kid tells whether a node of that kind stands there, whose kid At is there, and so many behind it.
func (w *site) kid(kind uint8, more int) bool {
	return w.n.Kind == kind && w.at >= 0 && w.at < len(w.kids)-more
}

// with is the node with others in the place of some kids, from At on.
func (w *site) with(gone int, others ...api.Tree) (api.Tree, bool) {
	var kids []api.Tree
	for i, kid := range w.kids {
		if i == w.at {
			kids = append(kids, others...)
		}
		if i < w.at || i >= w.at+gone {
			kids = append(kids, kid)
		}
	}
	return together(w.n, kids), true
}

// flow is that of an expression, by the whole grammar's.
func (w *site) flow(x api.Tree) flow.Flow {
	l, _ := flow.Of(w.g)
	f, _ := flow.Tree(w.g, l, x)
	return f
}

// first is that of an expression, by the whole grammar's.
func (w *site) first(x api.Tree) first.First {
	l, _ := first.Of(w.g)
	f, _ := first.Tree(w.g, l, x)
	return f
}

func no() (api.Tree, bool) { return api.Tree{}, false }

// inner is the only kid of a tree of some kind.
func inner(t api.Tree, kind uint8) (api.Tree, bool) {
	if tree.Root(t).Kind != kind {
		return no()
	}
	return tree.Kids(t)[0], true
}
