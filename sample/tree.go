package sample

import "bonsai/api"

// Tree is a right tree of some depth at most, that calls the rules named (none: it calls none); it need not be normal, nor clean.
func (s *Source) Tree(depth int, names []string) api.Tree {
	var nodes []api.Node
	root := s.grow(&nodes, depth, names)
	return s.Turned(api.Tree{Nodes: nodes, Root: root})
}

func (s *Source) grow(nodes *[]api.Node, depth int, names []string) int {
	n := s.Leaf(names)
	if depth > 1 && !s.OneIn(4) {
		n = s.Inner()
	}
	kids := 0
	switch n.Kind {
	case api.Seq, api.Choice:
		kids = 2 + s.Below(3)
	case api.Rep, api.And, api.Not, api.Cap:
		kids = 1
	}
	for range kids {
		n.Kids = append(n.Kids, s.grow(nodes, depth-1, names))
	}
	*nodes = append(*nodes, n)
	return len(*nodes) - 1
}

// Leaf is a node without kids.
func (s *Source) Leaf(names []string) api.Node {
	switch s.Below(5) {
	case 0:
		if len(names) > 0 {
			return api.Node{Kind: api.Rule, Text: names[s.Below(len(names))]}
		}
	case 1:
		if s.OneIn(2) {
			return api.Node{Kind: api.Empty}
		}
	case 2:
		if s.OneIn(3) {
			return api.Node{Kind: api.Set, Set: s.Set()}
		}
		return api.Node{Kind: api.Set, Set: s.few()}
	}
	return api.Node{Kind: api.Text, Text: s.Word(1+s.Below(3), "ab")}
}

// few is a set of some of a to d.
func (s *Source) few() api.Bytes {
	return api.Bytes{0, uint64(s.Below(16)) << ('a' - 64)}
}

// Inner is a node that has kids, without them.
func (s *Source) Inner() api.Node {
	switch s.Below(9) {
	case 0, 1, 2:
		return api.Node{Kind: api.Seq}
	case 3, 4:
		return api.Node{Kind: api.Choice}
	case 5:
		return api.Node{Kind: api.And}
	case 6:
		return api.Node{Kind: api.Not}
	case 7:
		return api.Node{Kind: api.Cap, Text: s.Word(1, "mn")}
	}
	least := s.Below(3)
	most := least + s.Below(3)
	if s.OneIn(2) {
		most = -1
	}
	return api.Node{Kind: api.Rep, Min: least, Max: most}
}

// Turned is the same tree, its nodes numbered otherwise.
func (s *Source) Turned(t api.Tree) api.Tree {
	number := make([]int, len(t.Nodes))
	left := make([]int, len(t.Nodes))
	above := make([]int, len(t.Nodes))
	var ready []int
	for i, n := range t.Nodes {
		left[i] = len(n.Kids)
		for _, kid := range n.Kids {
			above[kid] = i
		}
		if left[i] == 0 {
			ready = append(ready, i)
		}
	}
	out := make([]api.Node, len(t.Nodes))
	for i := range out {
		pick := s.Below(len(ready))
		at := ready[pick]
		ready[pick] = ready[len(ready)-1]
		ready = ready[:len(ready)-1]
		number[at] = i
		n := t.Nodes[at]
		n.Kids = nil
		for _, kid := range t.Nodes[at].Kids {
			n.Kids = append(n.Kids, number[kid])
		}
		out[i] = n
		if at == t.Root {
			break
		}
		left[above[at]]--
		if left[above[at]] == 0 {
			ready = append(ready, above[at])
		}
	}
	return api.Tree{Nodes: out, Root: len(out) - 1}
}

// Broken is a tree that is not right, made of one that is by a single change.
func (s *Source) Broken(t api.Tree) api.Tree {
	nodes := make([]api.Node, len(t.Nodes))
	for i, n := range t.Nodes {
		n.Kids = append([]int(nil), n.Kids...)
		nodes[i] = n
	}
	t.Nodes = nodes
	n := &nodes[s.Below(len(nodes))]
	switch s.Below(9) {
	case 0:
		t.Root = s.Below(len(nodes)+3) - 1
		if t.Root == len(nodes)-1 {
			t.Root++
		}
	case 1:
		n.Kids = append(n.Kids, len(nodes)-1)
	case 2:
		n.Kids = append(n.Kids, -1)
	case 3:
		t.Nodes = append(nodes, api.Node{Kind: api.Empty})
	case 4:
		n.Kind = 10 + uint8(s.Below(246))
	case 5:
		n.Max = 100 + s.Below(9)
	case 6:
		n.Text += string(make([]byte, 256))
	case 7:
		n.Min = -1 - s.Below(9)
	case 8:
		t.Nodes = nil
	}
	return t
}

// Deep is a tree of so many nodes, one within the other, the innermost one Empty.
func Deep(n int, node api.Node) api.Tree {
	nodes := []api.Node{{Kind: api.Empty}}
	for i := range n - 1 {
		node.Kids = []int{i}
		nodes = append(nodes, node)
	}
	return api.Tree{Nodes: nodes, Root: len(nodes) - 1}
}
