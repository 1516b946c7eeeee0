package check

import (
	"bonsai/api"
	"bonsai/expr"
	"bonsai/set"
	"bonsai/tree"
)

// bytes is the set of a Set, or of a Text of one byte.
func bytes(t api.Tree) (api.Bytes, bool) {
	n := tree.Root(t)
	if n.Kind == api.Text {
		return set.Of(n.Text), len(n.Text) == 1
	}
	return n.Set, n.Kind == api.Set
}

func (w *site) either() (api.Tree, bool) {
	if !w.kid(api.Choice, 1) {
		return no()
	}
	a, is := bytes(w.kids[w.at])
	b, too := bytes(w.kids[w.at+1])
	if !is || !too {
		return no()
	}
	return w.with(2, tree.Set(set.Or(a, b)))
}

// asked is with one Set in the place of a predicate of a Set, and a Set.
func (w *site) asked(way uint8) (api.Tree, bool) {
	if !w.kid(api.Seq, 1) {
		return no()
	}
	kind := api.Not
	if way == 3 {
		kind = api.And
	}
	x, ok := inner(w.kids[w.at], kind)
	next := tree.Root(w.kids[w.at+1])
	if !ok || tree.Root(x).Kind != api.Set || next.Kind != api.Set {
		return no()
	}
	s := tree.Root(x).Set
	if way == 2 {
		s = set.Not(s)
	}
	return w.with(2, tree.Set(set.And(s, next.Set)))
}

// rep is what a Rep alone becomes.
func (w *site) rep(way uint8) (api.Tree, bool) {
	if !w.only(api.Rep) {
		return no()
	}
	least, most := w.n.Min, w.n.Max
	if way == 1 {
		return w.kids[0], least == 1 && most == 1
	}
	if way == 2 {
		return tree.Empty(), most == 0
	}
	x, ok := inner(w.kids[0], api.Rep)
	in := tree.Root(w.kids[0])
	switch {
	case !ok:
	case way == 4 && least < 2 && most != 0 && in.Min == 1 && in.Max == -1:
		return expr.Rep(x, least, -1)
	case way == 5 && least == 0 && most == 1 && in.Min < 2:
		return expr.Rep(x, 0, in.Max)
	}
	return no()
}

// often is what is repeated, and how often.
func often(t api.Tree) (x api.Tree, least, most int) {
	if x, ok := inner(t, api.Rep); ok {
		return x, tree.Root(t).Min, tree.Root(t).Max
	}
	return t, 1, 1
}

func (w *site) reps() (api.Tree, bool) {
	if !w.kid(api.Seq, 1) {
		return no()
	}
	x, a, b := often(w.kids[w.at])
	y, c, d := often(w.kids[w.at+1])
	if !tree.Same(x, y) || c != 0 && a != b {
		return no()
	}
	most := -1
	if b >= 0 && d >= 0 {
		most = b + d
	}
	// A number that is too great does not fit.
	one, ok := expr.Rep(x, a+c, most)
	if !ok {
		return no()
	}
	return w.with(2, one)
}

func (w *site) literals() (api.Tree, bool) {
	if !w.kid(api.Seq, 1) {
		return no()
	}
	a, b := tree.Root(w.kids[w.at]), tree.Root(w.kids[w.at+1])
	one := tree.Text(a.Text + b.Text)
	if a.Kind != api.Text || b.Kind != api.Text || !tree.Right(one) {
		return no()
	}
	return w.with(2, one)
}
