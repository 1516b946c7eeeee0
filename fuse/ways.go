package fuse

import (
	"bonsai/api"
	"bonsai/expr"
	"bonsai/tree"
)

// way is one of the pass's: what it makes of a Rep, or of two kids of a Seq, if it may.
type way struct {
	rep func(n api.Node, kid api.Tree) (api.Tree, bool)
	two func(a, b api.Tree) (api.Tree, bool)
}

// ways is the ways, by their numbers.
func ways() [7]way {
	return [...]way{
		1: {rep: func(n api.Node, kid api.Tree) (api.Tree, bool) { return kid, n.Min == 1 && n.Max == 1 }},
		2: {rep: func(n api.Node, kid api.Tree) (api.Tree, bool) { return tree.Empty(), n.Min == 0 && n.Max == 0 }},
		3: {two: reps},
		4: {rep: endless},
		5: {rep: option},
		6: {two: texts},
	}
}

// number is how often something may be repeated; -1: without end.
type number int

// plus is a sum of two; no: it is greater than there may be.
func (n number) plus(m number) (number, bool) {
	if n < 0 || m < 0 {
		return -1, true
	}
	return n + m, n+m <= api.MaxRep
}

// times is what is repeated, and how often; what is no Rep is itself, once.
func times(t api.Tree) (e api.Tree, least, most number) {
	n := tree.Root(t)
	if n.Kind != api.Rep {
		return t, 1, 1
	}
	return tree.Kids(t)[0], number(n.Min), number(n.Max)
}

func reps(a, b api.Tree) (api.Tree, bool) {
	e, least, most := times(a)
	f, low, high := times(b)
	if low != 0 && least != most || !tree.Same(e, f) {
		return api.Tree{}, false
	}
	more, further := least.plus, most.plus
	from, ok := more(low)
	to, fits := further(high)
	if !ok || !fits {
		return api.Tree{}, false
	}
	return expr.Rep(e, int(from), int(to))
}

func endless(n api.Node, kid api.Tree) (api.Tree, bool) {
	inner := tree.Root(kid)
	if n.Min > 1 || n.Max == 0 || inner.Kind != api.Rep || inner.Min != 1 || inner.Max != -1 {
		return api.Tree{}, false
	}
	return expr.Rep(tree.Kids(kid)[0], n.Min, -1)
}

func option(n api.Node, kid api.Tree) (api.Tree, bool) {
	inner := tree.Root(kid)
	if n.Min != 0 || n.Max != 1 || inner.Kind != api.Rep || inner.Min > 1 {
		return api.Tree{}, false
	}
	return expr.Rep(tree.Kids(kid)[0], 0, inner.Max)
}

func texts(a, b api.Tree) (api.Tree, bool) {
	one, other := tree.Root(a), tree.Root(b)
	if one.Kind != api.Text || other.Kind != api.Text || len(one.Text)+len(other.Text) > api.MaxLiteral {
		return api.Tree{}, false
	}
	return tree.Text(one.Text + other.Text), true
}
