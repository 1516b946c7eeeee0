package sample

import "bonsai/api"

// Normal is a tree made normal, its nodes numbered in whatever row.
func (s *Source) Normal(depth int, names []string) api.Tree {
	t := s.Tree(depth, names)
	var nodes []api.Node
	root := settle(&nodes, t, t.Root)
	return s.Turned(api.Tree{Nodes: nodes, Root: root})
}

// settle puts what stands at a node there, made normal, and tells its number.
func settle(nodes *[]api.Node, t api.Tree, at int) int {
	n := t.Nodes[at]
	if n.Kind != api.Seq && n.Kind != api.Choice {
		var kids []int
		for _, kid := range n.Kids {
			kids = append(kids, settle(nodes, t, kid))
		}
		n.Kids = kids
		*nodes = append(*nodes, n)
		return len(*nodes) - 1
	}
	var kids []int
	for _, kid := range n.Kids {
		from := len(*nodes)
		i := settle(nodes, t, kid)
		switch kind := (*nodes)[i].Kind; {
		case kind == api.Empty && n.Kind == api.Seq:
			*nodes = (*nodes)[:from]
		case kind == n.Kind:
			kids = append(kids, (*nodes)[i].Kids...)
			*nodes = (*nodes)[:i]
		default:
			kids = append(kids, i)
		}
	}
	if len(kids) == 1 {
		return kids[0]
	}
	n.Kids = kids
	if len(kids) == 0 {
		n = api.Node{Kind: api.Empty}
	}
	*nodes = append(*nodes, n)
	return len(*nodes) - 1
}

// Names is names of so many rules.
func Names(n int) []string {
	var out []string
	for i := range n {
		name := string(rune('a' + i%26))
		if i >= 26 {
			name += string(rune('0' + i/26))
		}
		out = append(out, name)
	}
	return out
}

// Grammar is a grammar of so many rules, each of some depth at most; mostly it may be, seldom is it well-formed where it has many.
func (s *Source) Grammar(rules, depth int) api.Grammar {
	names := Names(rules)
	var out api.Grammar
	for _, name := range names {
		out.Rules = append(out.Rules, api.Def{Name: name, Body: s.Normal(depth, names)})
	}
	return out
}

// Input is a text of some bytes at most that grammars may match.
func (s *Source) Input(n int) string { return s.Word(s.Below(n+1), "aaabbc") }
