// Package redex has the steps of all passes, straight by the document's table, and holds a pass against them: for the tests of the other packages.
package redex

import (
	"bonsai/api"
	"bonsai/expr"
	"bonsai/first"
	"bonsai/flow"
	"bonsai/gram"
	"bonsai/path"
	"bonsai/reach"
	"bonsai/set"
	"bonsai/tree"
	"bonsai/well"
)

// Ways is how many ways a pass has.
func Ways(pass uint8) uint8 {
	return [...]uint8{0, 1, 3, 3, 10, 3, 6, 1}[pass]
}

// Steps is a pass's steps of a grammar, in their row.
func Steps(g api.Grammar, pass uint8) []api.Step {
	if well.Check(g) != api.OK {
		return nil
	}
	if pass == api.Prune {
		if l := reach.Useless(g); len(l) > 0 {
			return []api.Step{{Pass: pass, Way: 1, Rule: l[0]}}
		}
		return nil
	}
	var out []api.Step
	for _, p := range path.All(g) {
		x, _ := path.Find(g, p)
		for way := uint8(1); way <= Ways(pass); way++ {
			for at := range max(1, len(tree.Kids(x))) {
				s := api.Step{Pass: pass, Way: way, Rule: p.Rule, Path: p.Path, At: at}
				if _, ok := Do(g, s); ok {
					out = append(out, s)
				}
			}
		}
	}
	return out
}

// Do is the grammar that comes of a step of one that is well-formed, if it is one.
func Do(g api.Grammar, s api.Step) (api.Grammar, bool) {
	if s.Pass == api.Prune {
		return pruned(g, s)
	}
	x, ok := path.Find(g, path.Place{Rule: s.Rule, Path: s.Path})
	if !ok {
		return api.Grammar{}, false
	}
	w := where{g: g, n: tree.Root(x), kids: tree.Kids(x), at: s.At}
	ok = false
	switch s.Pass {
	case api.Inline:
		x, ok = w.inline(s.Way)
	case api.Dead:
		x, ok = w.dead(s.Way)
	case api.Factor:
		x, ok = w.factor(s.Way)
	case api.Pred:
		x, ok = w.pred(s.Way)
	case api.Merge:
		x, ok = w.merge(s.Way)
	case api.Fuse:
		x, ok = w.fuse(s.Way)
	}
	if !ok {
		return api.Grammar{}, false
	}
	out, ok := path.With(g, path.Place{Rule: s.Rule, Path: s.Path}, x)
	return out, ok && well.Check(out) == api.OK
}

func pruned(g api.Grammar, s api.Step) (api.Grammar, bool) {
	l := reach.Useless(g)
	if s.Way != 1 || len(s.Path) > 0 || s.At != 0 || len(l) == 0 || l[0] != s.Rule {
		return api.Grammar{}, false
	}
	out := api.Grammar{}
	for _, i := range reach.From(g, 0) {
		out.Rules = append(out.Rules, g.Rules[i])
	}
	return gram.Copy(out), true
}

// where is what stands at a place.
type where struct {
	g    api.Grammar
	n    api.Node
	kids []api.Tree
	at   int
}

func none() (api.Tree, bool) { return api.Tree{}, false }

// has tells whether there stands a node of a kind, with so many kids from At on.
func (w where) has(kind uint8, more int) bool {
	return w.n.Kind == kind && w.at >= 0 && w.at <= len(w.kids)-more
}

// but is the node with other kids in the place of some from At on.
func (w where) but(more int, l ...api.Tree) (api.Tree, bool) {
	all := append(append(append([]api.Tree{}, w.kids[:w.at]...), l...), w.kids[w.at+more:]...)
	if w.n.Kind == api.Seq {
		return expr.Seq(all)
	}
	return expr.Choice(all)
}

func (w where) flow(x api.Tree) flow.Flow {
	l, _ := flow.Of(w.g)
	f, _ := flow.Tree(w.g, l, x)
	return f
}

func (w where) inline(way uint8) (api.Tree, bool) {
	if way != 1 || w.at != 0 || w.n.Kind != api.Rule {
		return none()
	}
	i := gram.Find(w.g, w.n.Text)
	return w.g.Rules[i].Body, !reach.Self(w.g, i)
}

func (w where) dead(way uint8) (api.Tree, bool) {
	if !w.has(api.Choice, 1) && !w.has(api.Seq, 1) {
		return none()
	}
	f := w.flow(w.kids[w.at])
	last := w.at == len(w.kids)-1
	switch {
	case way == 1 && w.n.Kind == api.Choice && !f.Fail && !last, way == 3 && w.n.Kind == api.Seq && !f.Zero && !f.Some && !last:
		return w.but(len(w.kids)-w.at, w.kids[w.at])
	case way == 2 && w.n.Kind == api.Choice && !f.Zero && !f.Some:
		return w.but(1)
	}
	return none()
}

// cut is a tree's first part, and the others.
func cut(x api.Tree) (head api.Tree, tail []api.Tree) {
	if tree.Root(x).Kind == api.Seq {
		return tree.Kids(x)[0], tree.Kids(x)[1:]
	}
	return x, nil
}

func (w where) factor(way uint8) (api.Tree, bool) {
	if !w.has(api.Choice, 2) || way < 1 || way > 3 {
		return none()
	}
	a, b := w.kids[w.at], w.kids[w.at+1]
	if tree.Same(a, b) {
		if way != 1 {
			return none()
		}
		return w.but(2, a)
	}
	ha, ta := cut(a)
	hb, tb := cut(b)
	if tree.Same(ha, hb) {
		if way != 2 {
			return none()
		}
		return w.drawn(ha, ta, tb)
	}
	s, t := tree.Root(ha).Text, tree.Root(hb).Text
	if way != 3 || tree.Root(ha).Kind != api.Text || tree.Root(hb).Kind != api.Text || s[0] != t[0] {
		return none()
	}
	n := 1
	for n < min(len(s), len(t)) && s[n] == t[n] {
		n++
	}
	if n < len(s) {
		ta = append([]api.Tree{tree.Text(s[n:])}, ta...)
	}
	if n < len(t) {
		tb = append([]api.Tree{tree.Text(t[n:])}, tb...)
	}
	return w.drawn(tree.Text(s[:n]), ta, tb)
}

func (w where) drawn(head api.Tree, a, b []api.Tree) (api.Tree, bool) {
	one, _ := expr.Seq(a)
	two, _ := expr.Seq(b)
	both, _ := expr.Choice([]api.Tree{one, two})
	whole, _ := expr.Seq([]api.Tree{head, both})
	return w.but(2, whole)
}

func (w where) pred(way uint8) (api.Tree, bool) {
	if way >= 8 {
		return w.besides(way)
	}
	and := w.n.Kind == api.And
	if !and && w.n.Kind != api.Not || w.at != 0 {
		return none()
	}
	kid := w.kids[0]
	f := w.flow(kid)
	can := f.Zero || f.Some
	inner := tree.Root(kid).Kind
	switch {
	case way == 1 && !and && inner == api.Not, way == 2 && and && inner == api.And, way == 7 && and && inner == api.Cap:
		return expr.And(tree.Kids(kid)[0])
	case way == 3 && !and && inner == api.And, way == 4 && and && inner == api.Not, way == 7 && !and && inner == api.Cap:
		return expr.Not(tree.Kids(kid)[0])
	case way == 5 && (and && !f.Fail || !and && !can):
		return tree.Empty(), true
	case way == 6 && (and && !can || !and && !f.Fail):
		return tree.Set(api.Bytes{}), true
	}
	return none()
}

func (w where) besides(way uint8) (api.Tree, bool) {
	if !w.has(api.Seq, 2) {
		return none()
	}
	p, next := tree.Root(w.kids[w.at]).Kind, w.kids[w.at+1]
	if p != api.And && p != api.Not {
		return none()
	}
	inner := tree.Kids(w.kids[w.at])[0]
	s := tree.Root(inner).Set
	l, _ := first.Of(w.g)
	f, _ := first.Tree(w.g, l, next)
	sure := tree.Root(inner).Kind == api.Set && !f.Free
	switch {
	case way == 8 && p == api.And && tree.Same(inner, next), way == 9 && p == api.Not && sure && set.And(f.Set, s) == (api.Bytes{}), way == 10 && p == api.And && sure && set.Minus(f.Set, s) == (api.Bytes{}):
		return w.but(1)
	}
	return none()
}

func (w where) merge(way uint8) (api.Tree, bool) {
	if !w.has(api.Choice, 2) && !w.has(api.Seq, 2) {
		return none()
	}
	a, b := tree.Root(w.kids[w.at]), tree.Root(w.kids[w.at+1])
	if w.n.Kind == api.Choice {
		for _, n := range []*api.Node{&a, &b} {
			if n.Kind == api.Text && len(n.Text) == 1 {
				*n = api.Node{Kind: api.Set, Set: set.Of(n.Text)}
			}
		}
		if way != 1 || a.Kind != api.Set || b.Kind != api.Set {
			return none()
		}
		return w.but(2, tree.Set(set.Or(a.Set, b.Set)))
	}
	if b.Kind != api.Set || a.Kind != api.And && a.Kind != api.Not {
		return none()
	}
	inner := tree.Root(tree.Kids(w.kids[w.at])[0])
	switch {
	case inner.Kind != api.Set:
	case way == 2 && a.Kind == api.Not:
		return w.but(2, tree.Set(set.Minus(b.Set, inner.Set)))
	case way == 3 && a.Kind == api.And:
		return w.but(2, tree.Set(set.And(b.Set, inner.Set)))
	}
	return none()
}

func (w where) fuse(way uint8) (api.Tree, bool) {
	if way == 3 || way == 6 {
		return w.joined(way)
	}
	if w.n.Kind != api.Rep || w.at != 0 {
		return none()
	}
	kid := w.kids[0]
	in := tree.Root(kid)
	switch {
	case way == 1 && w.n.Min == 1 && w.n.Max == 1:
		return kid, true
	case way == 2 && w.n.Min == 0 && w.n.Max == 0:
		return tree.Empty(), true
	case way == 4 && w.n.Min <= 1 && w.n.Max != 0 && in.Kind == api.Rep && in.Min == 1 && in.Max == -1:
		return expr.Rep(tree.Kids(kid)[0], w.n.Min, -1)
	case way == 5 && w.n.Min == 0 && w.n.Max == 1 && in.Kind == api.Rep && in.Min <= 1:
		return expr.Rep(tree.Kids(kid)[0], 0, in.Max)
	}
	return none()
}

func (w where) joined(way uint8) (api.Tree, bool) {
	if !w.has(api.Seq, 2) {
		return none()
	}
	a, b := w.kids[w.at], w.kids[w.at+1]
	m, n := tree.Root(a), tree.Root(b)
	if way == 6 {
		if m.Kind != api.Text || n.Kind != api.Text || len(m.Text+n.Text) > api.MaxLiteral {
			return none()
		}
		return w.but(2, tree.Text(m.Text+n.Text))
	}
	if m.Kind != api.Rep {
		m.Min, m.Max = 1, 1
	} else {
		a = tree.Kids(a)[0]
	}
	if n.Kind != api.Rep {
		n.Min, n.Max = 1, 1
	} else {
		b = tree.Kids(b)[0]
	}
	if !tree.Same(a, b) || n.Min != 0 && m.Min != m.Max {
		return none()
	}
	most := m.Max + n.Max
	if m.Max < 0 || n.Max < 0 {
		most = -1
	}
	if m.Min+n.Min > api.MaxRep || most > api.MaxRep {
		return none()
	}
	one, ok := expr.Rep(a, m.Min+n.Min, most)
	if !ok {
		return none()
	}
	return w.but(2, one)
}
