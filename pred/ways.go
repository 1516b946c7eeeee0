package pred

import (
	"bonsai/api"
	"bonsai/expr"
	"bonsai/first"
	"bonsai/flow"
	"bonsai/set"
	"bonsai/tree"
)

// besides is the first way of those that look at a Seq's kid, and the next one.
const besides = 8

// known is what is known of each node of a body.
type known struct {
	body   api.Tree
	flows  []flow.Flow
	firsts []first.First
}

// way is one of the pass's: what stands at a node becomes what is told, if it may.
type way struct {
	becomes func(k known, node, at int) (api.Tree, bool)
}

// ways is the ways, by their numbers.
func ways() [11]way {
	return [...]way{
		1:  {twice(api.Not, api.Not, expr.And)},
		2:  {twice(api.And, api.And, expr.And)},
		3:  {twice(api.Not, api.And, expr.Not)},
		4:  {twice(api.And, api.Not, expr.Not)},
		5:  {always},
		6:  {never},
		7:  {captured},
		8:  {again},
		9:  {ahead(api.Not, func(s, next api.Bytes) bool { return !set.Meets(s, next) })},
		10: {ahead(api.And, func(s, next api.Bytes) bool { return set.Subset(next, s) })},
	}
}

// twice is a predicate of a predicate, that becomes one.
func twice(kind, inner uint8, put func(api.Tree) (api.Tree, bool)) func(k known, node, at int) (api.Tree, bool) {
	return func(k known, node, _ int) (api.Tree, bool) {
		n := k.body.Nodes[node]
		kid := k.body.Nodes[n.Kids[0]]
		if n.Kind != kind || kid.Kind != inner {
			return api.Tree{}, false
		}
		x, _ := tree.Sub(k.body, kid.Kids[0])
		return put(x)
	}
}

// always is a predicate that can't fail.
func always(k known, node, _ int) (api.Tree, bool) {
	n := k.body.Nodes[node]
	kid := k.flows[n.Kids[0]]
	return tree.Empty(), n.Kind == api.And && !kid.Fail || n.Kind == api.Not && !kid.Succeeds()
}

// never is a predicate that can't succeed.
func never(k known, node, _ int) (api.Tree, bool) {
	n := k.body.Nodes[node]
	kid := k.flows[n.Kids[0]]
	return tree.Set(api.Bytes{}), n.Kind == api.And && !kid.Succeeds() || n.Kind == api.Not && !kid.Fail
}

// captured is a predicate of a Cap.
func captured(k known, node, _ int) (api.Tree, bool) {
	n := k.body.Nodes[node]
	kid := k.body.Nodes[n.Kids[0]]
	if kid.Kind != api.Cap {
		return api.Tree{}, false
	}
	x, _ := tree.Sub(k.body, kid.Kids[0])
	if n.Kind == api.And {
		return expr.And(x)
	}
	return expr.Not(x)
}

// again is an And, and what it asks for right behind it.
func again(k known, node, at int) (api.Tree, bool) {
	kids := k.body.Nodes[node].Kids
	n := k.body.Nodes[kids[at]]
	if n.Kind != api.And {
		return api.Tree{}, false
	}
	x, _ := tree.Sub(k.body, n.Kids[0])
	next, _ := tree.Sub(k.body, kids[at+1])
	if !tree.Same(x, next) {
		return api.Tree{}, false
	}
	return without(k, node, at)
}

// ahead is a predicate of a Set, ahead of what begins by bytes of which it says nothing.
func ahead(kind uint8, idle func(s, next api.Bytes) bool) func(k known, node, at int) (api.Tree, bool) {
	return func(k known, node, at int) (api.Tree, bool) {
		kids := k.body.Nodes[node].Kids
		n := k.body.Nodes[kids[at]]
		if n.Kind != kind || k.body.Nodes[n.Kids[0]].Kind != api.Set {
			return api.Tree{}, false
		}
		next := k.firsts[kids[at+1]]
		if next.Free || !idle(k.body.Nodes[n.Kids[0]].Set, next.Set) {
			return api.Tree{}, false
		}
		return without(k, node, at)
	}
}
