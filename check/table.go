package check

import (
	"strings"

	"bonsai/api"
	"bonsai/expr"
	"bonsai/flow"
	"bonsai/gram"
	"bonsai/reach"
	"bonsai/set"
	"bonsai/tree"
)

// row is one of the table of steps: a pass, and a way.
type row struct{ pass, way uint8 }

// becomes is what the table says of a pass and a way, if it says something.
func (w *site) becomes(pass, way uint8) (x api.Tree, ok bool) {
	fails := func(f flow.Flow) bool { return !f.Succeeds() }
	switch (row{pass, way}) {
	case row{api.Inline, 1}:
		x, ok = w.body()
	case row{api.Dead, 1}:
		x, ok = w.cut(api.Choice, func(f flow.Flow) bool { return !f.Fail })
	case row{api.Dead, 2}:
		x, ok = w.drop(fails)
	case row{api.Dead, 3}:
		x, ok = w.cut(api.Seq, fails)
	case row{api.Factor, 1}, row{api.Factor, 2}, row{api.Factor, 3}:
		x, ok = w.common(way)
	case row{api.Pred, 1}:
		x, ok = w.predicate(api.Not, api.Not, expr.And)
	case row{api.Pred, 2}:
		x, ok = w.predicate(api.And, api.And, expr.And)
	case row{api.Pred, 3}:
		x, ok = w.predicate(api.Not, api.And, expr.Not)
	case row{api.Pred, 4}:
		x, ok = w.predicate(api.And, api.Not, expr.Not)
	case row{api.Pred, 5}:
		x, ok = tree.Empty(), w.sure(true)
	case row{api.Pred, 6}:
		x, ok = tree.Set(api.Bytes{}), w.sure(false)
	case row{api.Pred, 7}:
		if x, ok = w.predicate(api.And, api.Cap, expr.And); !ok {
			x, ok = w.predicate(api.Not, api.Cap, expr.Not)
		}
	case row{api.Pred, 8}, row{api.Pred, 9}, row{api.Pred, 10}:
		x, ok = w.needless(way)
	case row{api.Merge, 1}:
		x, ok = w.either()
	case row{api.Merge, 2}, row{api.Merge, 3}:
		x, ok = w.asked(way)
	case row{api.Fuse, 1}, row{api.Fuse, 2}, row{api.Fuse, 4}, row{api.Fuse, 5}:
		x, ok = w.rep(way)
	case row{api.Fuse, 3}:
		x, ok = w.reps()
	case row{api.Fuse, 6}:
		x, ok = w.literals()
	default:
		goto none
	}
	if ok {
		return x, true
	}
none:
	return no()
}

func (w *site) body() (api.Tree, bool) {
	if !w.only(api.Rule) {
		return no()
	}
	i := gram.Find(w.g, w.n.Text)
	return w.g.Rules[i].Body, !reach.Self(w.g, i)
}

// cut is without the kids behind At, where that one lets nothing go on.
func (w *site) cut(kind uint8, ends func(flow.Flow) bool) (api.Tree, bool) {
	if !w.kid(kind, 1) || !ends(w.flow(w.kids[w.at])) {
		return no()
	}
	return together(w.n, w.kids[:w.at+1]), true
}

func (w *site) drop(never func(flow.Flow) bool) (api.Tree, bool) {
	if !w.kid(api.Choice, 0) || !never(w.flow(w.kids[w.at])) {
		return no()
	}
	return w.with(1)
}

// common is with one in the place of two ways that begin by the same.
func (w *site) common(way uint8) (api.Tree, bool) {
	if !w.kid(api.Choice, 1) {
		return no()
	}
	a, b := w.kids[w.at], w.kids[w.at+1]
	if tree.Same(a, b) {
		return w.common1(way, a)
	}
	head, is := expr.Head(a)
	other, too := expr.Head(b)
	if !is || !too {
		return no()
	}
	var left, right api.Tree
	s, t := tree.Root(head).Text, tree.Root(other).Text
	switch {
	case tree.Same(head, other):
		if way != 2 {
			return no()
		}
		left, right = tree.Empty(), tree.Empty()
	case way == 3 && tree.Root(head).Kind == api.Text && tree.Root(other).Kind == api.Text && s[0] == t[0]:
		n := len(s)
		for !strings.HasPrefix(t, s[:n]) {
			n--
		}
		head, left, right = tree.Text(s[:n]), behind(s, n), behind(t, n)
	default:
		return no()
	}
	tail, _ := expr.Tail(a)
	rest, _ := expr.Tail(b)
	one, _ := expr.Seq([]api.Tree{left, tail})
	two, _ := expr.Seq([]api.Tree{right, rest})
	both, _ := expr.Choice([]api.Tree{one, two})
	both, _ = expr.Seq([]api.Tree{head, both})
	return w.with(2, both)
}

func (w *site) common1(way uint8, a api.Tree) (api.Tree, bool) {
	if way != 1 {
		return no()
	}
	return w.with(2, a)
}

// behind is what is left of a text behind n bytes.
func behind(s string, n int) api.Tree {
	if n == len(s) {
		return tree.Empty()
	}
	return tree.Text(s[n:])
}

// predicate is one predicate in the place of it and what it asks for.
func (w *site) predicate(kind, of uint8, put func(api.Tree) (api.Tree, bool)) (api.Tree, bool) {
	if !w.only(kind) {
		return no()
	}
	x, ok := inner(w.kids[0], of)
	if !ok {
		return no()
	}
	return put(x)
}

// sure tells whether a predicate can't fail, or can't succeed.
func (w *site) sure(succeeds bool) bool {
	if !w.only(api.And) && !w.only(api.Not) {
		return false
	}
	f := w.flow(w.kids[0])
	if succeeds == (w.n.Kind == api.And) {
		return !f.Fail
	}
	return !f.Succeeds()
}

// needless is without a predicate that what stands behind it makes needless.
func (w *site) needless(way uint8) (api.Tree, bool) {
	if !w.kid(api.Seq, 1) {
		return no()
	}
	kind := api.And
	if way == 9 {
		kind = api.Not
	}
	x, ok := inner(w.kids[w.at], kind)
	if !ok {
		return no()
	}
	next := w.kids[w.at+1]
	if way == 8 {
		ok = tree.Same(x, next)
	} else {
		f := w.first(next)
		bytes := tree.Root(x).Set
		if way == 9 {
			bytes = set.Not(bytes)
		}
		ok = tree.Root(x).Kind == api.Set && !f.Free && set.Subset(f.Set, bytes)
	}
	if !ok {
		return no()
	}
	return w.with(1)
}
