package tree_test

import (
	"reflect"
	"strings"
	"testing"

	"bonsai/api"
	"bonsai/sample"
	"bonsai/tree"
)

var names = []string{"a", "b", "c"}

func copied(t api.Tree) api.Tree {
	out := api.Tree{Root: t.Root}
	for _, n := range t.Nodes {
		n.Kids = append([]int(nil), n.Kids...)
		out.Nodes = append(out.Nodes, n)
	}
	return out
}

func alike(a, b api.Tree) bool {
	if a.Root != b.Root || len(a.Nodes) != len(b.Nodes) {
		return false
	}
	for i, n := range a.Nodes {
		m := b.Nodes[i]
		if len(n.Kids) != len(m.Kids) {
			return false
		}
		for j, kid := range n.Kids {
			if kid != m.Kids[j] {
				return false
			}
		}
		n.Kids, m.Kids = nil, nil
		if !reflect.DeepEqual(n, m) {
			return false
		}
	}
	return true
}

// shape writes a tree as a text, from the root on.
func shape(t api.Tree, at int) string {
	n := t.Nodes[at]
	out := string(rune('0'+n.Kind)) + "'" + n.Text + "'"
	for _, word := range n.Set {
		out += string(rune(word%100+40)) + string(rune(word>>40%100+40))
	}
	out += string(rune(n.Min+40)) + string(rune(n.Max+40)) + "("
	for _, kid := range n.Kids {
		out += shape(t, kid)
	}
	return out + ")"
}

func TestExamples(t *testing.T) {
	seq, ok := tree.Of(api.Node{Kind: api.Seq}, []api.Tree{tree.Text("a"), tree.Rule("b")})
	want := api.Tree{Nodes: []api.Node{{Kind: api.Text, Text: "a"}, {Kind: api.Rule, Text: "b"}, {Kind: api.Seq, Kids: []int{0, 1}}}, Root: 2}
	if !ok || !alike(seq, want) {
		t.Fatalf("Of: %v %v", seq, ok)
	}
	turned := api.Tree{Nodes: []api.Node{{Kind: api.Rule, Text: "b"}, {Kind: api.Text, Text: "a"}, {Kind: api.Seq, Kids: []int{1, 0}}}, Root: 2}
	if !tree.Right(turned) || !tree.May(turned) || !alike(tree.Clean(turned), want) || !tree.Same(turned, want) {
		t.Fatal("turned about")
	}
	if got := tree.Walk(turned); !reflect.DeepEqual(got, []int{2, 1, 0}) {
		t.Fatal(got)
	}
	if _, ok := tree.Of(api.Node{Kind: api.Seq}, []api.Tree{tree.Empty()}); ok {
		t.Fatal("a Seq of one")
	}
	if _, ok := tree.Of(api.Node{Kind: api.Rep, Min: 2, Max: 1}, []api.Tree{tree.Empty()}); ok {
		t.Fatal("a Rep 2, 1")
	}
	shared := api.Tree{Nodes: []api.Node{{}, {Kind: api.Seq, Kids: []int{0, 0}}}, Root: 1}
	if tree.Right(shared) {
		t.Fatal("a kid that stands in two")
	}
	nots := sample.Deep(100, api.Node{Kind: api.Not})
	if !tree.Right(nots) || tree.May(nots) || tree.Depth(nots) != 100 {
		t.Fatal("a hundred Nots")
	}
}

func TestFits(t *testing.T) {
	some := api.Bytes{0, 1}
	long := strings.Repeat("x", 256)
	rows := []struct {
		n    api.Node
		from int
		to   int // of the numbers of kids that fit; -1: none do
	}{
		{api.Node{Kind: api.Empty}, 0, 0},
		{api.Node{Kind: api.Set}, 0, 0},
		{api.Node{Kind: api.Set, Set: some}, 0, 0},
		{api.Node{Kind: api.Text, Text: "x"}, 0, 0},
		{api.Node{Kind: api.Text, Text: long[:255]}, 0, 0},
		{api.Node{Kind: api.Text, Text: "\x00\xff"}, 0, 0},
		{api.Node{Kind: api.Rule, Text: "x_1"}, 0, 0},
		{api.Node{Kind: api.Rule, Text: long[:32]}, 0, 0},
		{api.Node{Kind: api.Seq}, 2, 99},
		{api.Node{Kind: api.Choice}, 2, 99},
		{api.Node{Kind: api.Rep}, 1, 1},
		{api.Node{Kind: api.Rep, Max: -1}, 1, 1},
		{api.Node{Kind: api.Rep, Min: 99, Max: 99}, 1, 1},
		{api.Node{Kind: api.Rep, Min: 99, Max: -1}, 1, 1},
		{api.Node{Kind: api.And}, 1, 1},
		{api.Node{Kind: api.Not}, 1, 1},
		{api.Node{Kind: api.Cap, Text: "_"}, 1, 1},
		{api.Node{Kind: api.Empty, Text: "x"}, 0, -1},
		{api.Node{Kind: api.Empty, Set: some}, 0, -1},
		{api.Node{Kind: api.Empty, Min: 1}, 0, -1},
		{api.Node{Kind: api.Empty, Max: -1}, 0, -1},
		{api.Node{Kind: api.Set, Text: "x"}, 0, -1},
		{api.Node{Kind: api.Set, Max: 1}, 0, -1},
		{api.Node{Kind: api.Text}, 0, -1},
		{api.Node{Kind: api.Text, Text: long}, 0, -1},
		{api.Node{Kind: api.Text, Text: "x", Set: some}, 0, -1},
		{api.Node{Kind: api.Text, Text: "x", Min: 1}, 0, -1},
		{api.Node{Kind: api.Rule}, 0, -1},
		{api.Node{Kind: api.Rule, Text: "1"}, 0, -1},
		{api.Node{Kind: api.Rule, Text: long[:33]}, 0, -1},
		{api.Node{Kind: api.Rule, Text: "x", Max: 1}, 0, -1},
		{api.Node{Kind: api.Seq, Text: "x"}, 0, -1},
		{api.Node{Kind: api.Seq, Min: 1}, 0, -1},
		{api.Node{Kind: api.Choice, Set: some}, 0, -1},
		{api.Node{Kind: api.Choice, Max: 1}, 0, -1},
		{api.Node{Kind: api.Rep, Min: 2, Max: 1}, 0, -1},
		{api.Node{Kind: api.Rep, Min: -1}, 0, -1},
		{api.Node{Kind: api.Rep, Min: -1, Max: -1}, 0, -1},
		{api.Node{Kind: api.Rep, Max: -2}, 0, -1},
		{api.Node{Kind: api.Rep, Max: 100}, 0, -1},
		{api.Node{Kind: api.Rep, Min: 100, Max: -1}, 0, -1},
		{api.Node{Kind: api.Rep, Min: 100, Max: 100}, 0, -1},
		{api.Node{Kind: api.Rep, Text: "x"}, 0, -1},
		{api.Node{Kind: api.Rep, Set: some}, 0, -1},
		{api.Node{Kind: api.And, Text: "x"}, 0, -1},
		{api.Node{Kind: api.And, Min: 1, Max: 1}, 0, -1},
		{api.Node{Kind: api.Not, Set: some}, 0, -1},
		{api.Node{Kind: api.Cap}, 0, -1},
		{api.Node{Kind: api.Cap, Text: "a-b"}, 0, -1},
		{api.Node{Kind: api.Cap, Text: "a", Max: -1}, 0, -1},
		{api.Node{Kind: api.Cap, Text: "a", Set: some}, 0, -1},
		{api.Node{Kind: 10}, 0, -1},
		{api.Node{Kind: 255}, 0, -1},
	}
	for _, row := range rows {
		for kids := -1; kids < 100; kids++ {
			row.n.Kids = []int{5, 7}
			if got, want := tree.Fits(row.n, kids), kids >= row.from && kids <= row.to; got != want {
				t.Errorf("Fits(%v, %d): %v", row.n, kids, got)
			}
		}
	}
}

func TestLeaves(t *testing.T) {
	some := api.Bytes{3, 0, 9}
	for _, row := range []struct {
		t api.Tree
		n api.Node
	}{
		{tree.Empty(), api.Node{}}, {tree.Set(some), api.Node{Kind: api.Set, Set: some}}, {tree.Set(api.Bytes{}), api.Node{Kind: api.Set}},
		{tree.Text("xy"), api.Node{Kind: api.Text, Text: "xy"}}, {tree.Rule("r"), api.Node{Kind: api.Rule, Text: "r"}},
	} {
		if !alike(row.t, api.Tree{Nodes: []api.Node{row.n}}) || !tree.May(row.t) {
			t.Error(row.t)
		}
	}
	for _, row := range []struct {
		t    api.Tree
		kind uint8
		text string
	}{
		{tree.Text(""), api.Text, ""}, {tree.Text(strings.Repeat("x", 256)), api.Text, strings.Repeat("x", 256)},
		{tree.Rule(""), api.Rule, ""}, {tree.Rule("1"), api.Rule, "1"},
	} {
		if tree.Right(row.t) || !alike(row.t, api.Tree{Nodes: []api.Node{{Kind: row.kind, Text: row.text}}}) {
			t.Error(row.t)
		}
	}
}

func TestNotRight(t *testing.T) {
	s := sample.New(41)
	bad := []api.Tree{
		{}, {Nodes: []api.Node{}}, {Nodes: []api.Node{{}}, Root: 1}, {Nodes: []api.Node{{}}, Root: -1},
		{Nodes: []api.Node{{}, {}}, Root: 1}, {Nodes: []api.Node{{}, {}}, Root: 0},
		{Nodes: []api.Node{{Kind: api.Not, Kids: []int{0}}}},
		{Nodes: []api.Node{{Kind: api.Not, Kids: []int{1}}, {Kind: api.Not, Kids: []int{0}}}},
		{Nodes: []api.Node{{Kind: api.Not, Kids: []int{1}}, {Kind: api.Empty}}, Root: 0},
		{Nodes: []api.Node{{}, {Kind: api.Not, Kids: []int{0}}, {Kind: api.Not, Kids: []int{0}}}, Root: 2},
		{Nodes: []api.Node{{}, {Kind: api.Not, Kids: []int{9}}}, Root: 1},
		{Nodes: []api.Node{{Kids: []int{0}}}},
	}
	for range 2000 {
		bad = append(bad, s.Broken(s.Tree(4, names)))
	}
	for i, b := range bad[:12] {
		if tree.Right(b) {
			t.Fatal("right", i, b)
		}
	}
	seen := 0
	for _, b := range bad {
		before := copied(b)
		if tree.Right(b) != right(b) {
			t.Fatal("Right", b)
		}
		if right(b) {
			continue
		}
		seen++
		c := tree.Clean(b)
		k, ok := tree.Sub(b, 0)
		of, made := tree.Of(api.Node{Kind: api.Not}, []api.Tree{b})
		if tree.May(b) || len(c.Nodes) != 0 || c.Root != 0 || tree.Same(b, b) || tree.Size(b) != 0 || tree.Depth(b) != 0 || len(tree.Walk(b)) != 0 {
			t.Fatal("of no right one", b)
		}
		if ok || len(k.Nodes) != 0 || len(tree.Kids(b)) != 0 || !reflect.DeepEqual(tree.Root(b), api.Node{}) || made || len(of.Nodes) != 0 || of.Root != 0 {
			t.Fatal("of no right one", b)
		}
		if !alike(b, before) {
			t.Fatal("changed")
		}
	}
	if seen < 1500 {
		t.Fatal("too few were tried:", seen)
	}
}

// right is S1's words, but for what a node has besides its kids.
func right(a api.Tree) bool {
	if a.Root < 0 || a.Root >= len(a.Nodes) {
		return false
	}
	above := make([]int, len(a.Nodes))
	for i, n := range a.Nodes {
		if !tree.Fits(n, len(n.Kids)) {
			return false
		}
		for _, kid := range n.Kids {
			if kid < 0 || kid >= i {
				return false
			}
			above[kid]++
		}
	}
	for i, n := range above {
		if i == a.Root && n != 0 || i != a.Root && n != 1 {
			return false
		}
	}
	return true
}

func TestArenas(t *testing.T) {
	s := sample.New(48)
	told := [2]int{}
	for range 30000 {
		a := api.Tree{}
		for i := range 1 + s.Below(5) {
			n := api.Node{Kind: []uint8{api.Empty, api.Seq, api.Not, api.Choice}[s.Below(4)]}
			for range s.Below(3) {
				n.Kids = append(n.Kids, s.Below(i+2)-1)
			}
			a.Nodes = append(a.Nodes, n)
		}
		if a.Root = len(a.Nodes) - 1; s.OneIn(9) {
			a.Root = s.Below(len(a.Nodes)+2) - 1
		}
		if tree.Right(a) != right(a) || tree.May(a) != right(a) || tree.Same(a, a) != right(a) {
			t.Fatal("Right", a)
		}
		if told[1]++; right(a) {
			told[0]++
		}
	}
	if told[0] < 100 || told[0] == told[1] {
		t.Fatal(told)
	}
	for i, a := range []api.Tree{{Nodes: []api.Node{{}, {}, {Kind: api.Seq, Kids: []int{0, 0}}}, Root: 2}, {Nodes: []api.Node{{}, {}, {Kind: api.Seq, Kids: []int{1, 1}}}, Root: 2}, {Nodes: []api.Node{{}}, Root: 1}, {Nodes: []api.Node{{}}, Root: -1}, {Nodes: []api.Node{{}, {Kind: api.Not, Kids: []int{0}}}}} {
		if tree.Right(a) || right(a) {
			t.Error(i)
		}
	}
}

func TestBrokenOnes(t *testing.T) {
	s := sample.New(47)
	for range 500 {
		whole := tree.Clean(s.Tree(4, names))
		if !tree.Right(whole) {
			t.Fatal("right", whole)
		}
		more := copied(whole)
		more.Nodes = append([]api.Node{{}}, more.Nodes...)
		if more.Root++; tree.Right(more) {
			t.Fatal("a node that is nobody's kid, its numbers wrong")
		}
		for i := range more.Nodes {
			for j := range more.Nodes[i].Kids {
				more.Nodes[i].Kids[j]++
			}
		}
		if tree.Right(more) {
			t.Fatal("a node that is nobody's kid")
		}
	}
}

func TestLimits(t *testing.T) {
	wide := func(n int) api.Tree {
		var kids []api.Tree
		for range n - 1 {
			kids = append(kids, tree.Empty())
		}
		out, ok := tree.Of(api.Node{Kind: api.Choice}, kids)
		if !ok {
			t.Fatal("wide")
		}
		return out
	}
	if !tree.May(wide(1024)) || tree.May(wide(1025)) || !tree.Right(wide(1025)) || tree.Size(wide(1025)) != 1025 {
		t.Error("nodes")
	}
	if !tree.May(sample.Deep(32, api.Node{Kind: api.And})) || tree.May(sample.Deep(33, api.Node{Kind: api.And})) {
		t.Error("depth")
	}
	deep := sample.Deep(65536, api.Node{Kind: api.Cap, Text: "n"})
	if tree.May(deep) || !tree.Same(deep, tree.Clean(deep)) || tree.Depth(deep) != 65536 || tree.Size(deep) != 65536 || len(tree.Walk(deep)) != 65536 {
		t.Error("deep")
	}
	if kids := tree.Kids(deep); len(kids) != 1 || tree.Size(kids[0]) != 65535 {
		t.Error("deep one's kids")
	}
	if big := wide(60000); tree.Size(big) != 60000 || len(tree.Kids(big)) != 59999 || tree.Depth(big) != 2 {
		t.Error("wide")
	}
}

func TestThereAndBack(t *testing.T) {
	s := sample.New(42)
	for range 2000 {
		a := s.Tree(5, names)
		before := copied(a)
		root, kids := tree.Root(a), tree.Kids(a)
		if len(root.Kids) != 0 || len(kids) != len(a.Nodes[a.Root].Kids) {
			t.Fatal("root, kids")
		}
		back, ok := tree.Of(root, kids)
		if !ok || !alike(back, tree.Clean(a)) || shape(back, back.Root) != shape(a, a.Root) {
			t.Fatal("there and back", a)
		}
		if size, depth := sums(kids); tree.Size(a) != size+1 || tree.Depth(a) != depth+1 || tree.Size(a) != len(a.Nodes) {
			t.Fatal("sizes")
		}
		root.Kids = []int{8, -1}
		again, ok := tree.Of(root, kids)
		if !ok || !alike(again, back) {
			t.Fatal("a node's Kids are not looked at")
		}
		for i, kid := range kids {
			if !alike(kid, tree.Clean(kid)) {
				t.Fatal("kids are clean")
			}
			sub, ok := tree.Sub(a, a.Nodes[a.Root].Kids[i])
			if !ok || !alike(sub, kid) {
				t.Fatal("Sub")
			}
		}
		if !alike(a, before) {
			t.Fatal("changed")
		}
	}
}

func sums(kids []api.Tree) (size, depth int) {
	for _, kid := range kids {
		size += tree.Size(kid)
		depth = max(depth, tree.Depth(kid))
	}
	return size, depth
}

func TestRow(t *testing.T) {
	s := sample.New(43)
	for range 1000 {
		a := s.Tree(5, names)
		var row []int
		var down func(at int)
		down = func(at int) {
			row = append(row, at)
			for _, kid := range a.Nodes[at].Kids {
				down(kid)
			}
		}
		down(a.Root)
		if got := tree.Walk(a); !reflect.DeepEqual(got, row) {
			t.Fatal(got, row)
		}
		for i := -2; i < len(a.Nodes)+2; i++ {
			sub, ok := tree.Sub(a, i)
			if ok != (i >= 0 && i < len(a.Nodes)) {
				t.Fatal("Sub", i)
			}
			if !ok && (len(sub.Nodes) != 0 || sub.Root != 0) {
				t.Fatal("Sub of none")
			}
			if ok && (shape(sub, sub.Root) != shape(a, i) || !alike(sub, tree.Clean(sub))) {
				t.Fatal("Sub", i)
			}
		}
	}
}

// clean asks whether each node stands behind all within its kids, these one kid's behind the other's.
func clean(a api.Tree) bool {
	next := 0
	var up func(at int) bool
	up = func(at int) bool {
		for _, kid := range a.Nodes[at].Kids {
			if !up(kid) {
				return false
			}
		}
		next++
		return at == next-1
	}
	return up(a.Root) && next == len(a.Nodes)
}

func TestSame(t *testing.T) {
	s := sample.New(44)
	same := 0
	for range 3000 {
		a, b := s.Tree(3, names[:1]), s.Tree(3, names[:1])
		if s.OneIn(3) {
			b = s.Turned(a)
		}
		c := s.Turned(b)
		as, bs := shape(a, a.Root), shape(b, b.Root)
		if tree.Same(a, b) != (as == bs) || tree.Same(b, a) != (as == bs) || tree.Same(a, c) != (as == bs) || !tree.Same(a, a) {
			t.Fatal("Same", a, b)
		}
		if as == bs {
			same++
		}
		ca, cb := tree.Clean(a), tree.Clean(b)
		if !clean(ca) || !tree.Right(ca) || !alike(tree.Clean(ca), ca) || alike(ca, cb) != (as == bs) || !tree.Same(a, ca) {
			t.Fatal("Clean", a)
		}
	}
	if same < 500 || same > 2500 {
		t.Fatal(same)
	}
	if tree.Same(tree.Rule("a"), tree.Text("a")) || tree.Same(tree.Empty(), tree.Set(api.Bytes{})) || tree.Same(tree.Empty(), api.Tree{}) {
		t.Fatal("unlike ones")
	}
	for i, bad := range []api.Tree{{Nodes: []api.Node{{}}, Root: 1}, {Nodes: []api.Node{{Text: "x"}}}, {Nodes: []api.Node{{Kids: []int{0}}}}} {
		if tree.Same(tree.Empty(), bad) || tree.Same(bad, tree.Empty()) || tree.Same(bad, bad) {
			t.Error("of one that is not right", i)
		}
	}
	one := api.Tree{Nodes: []api.Node{{}, {}, {Kind: api.Seq, Kids: []int{0, 1}}, {}, {Kind: api.Seq, Kids: []int{2, 3}}}, Root: 4}
	two := api.Tree{Nodes: []api.Node{{}, {}, {}, {Kind: api.Seq, Kids: []int{1, 2}}, {Kind: api.Seq, Kids: []int{0, 3}}}, Root: 4}
	if tree.Same(one, two) {
		t.Fatal("brackets")
	}
}

func TestNoSharing(t *testing.T) {
	s := sample.New(45)
	for range 300 {
		a := s.Tree(4, names)
		before := copied(a)
		outs := append(tree.Kids(a), tree.Clean(a))
		of, _ := tree.Of(api.Node{Kind: api.Choice}, []api.Tree{a, a})
		sub, _ := tree.Sub(a, a.Root)
		outs = append(outs, of, sub)
		var wants []api.Tree
		for _, out := range outs {
			wants = append(wants, copied(out))
		}
		for i, out := range outs {
			if !alike(out, wants[i]) {
				t.Fatal("two answers share memory")
			}
			for j := range out.Nodes {
				for k := range out.Nodes[j].Kids {
					out.Nodes[j].Kids[k] = -7
				}
				_ = append(out.Nodes[j].Kids, -8)
				out.Nodes[j] = api.Node{Kind: 99}
			}
		}
		if !alike(a, before) {
			t.Fatal("an answer shares memory with what was handed in")
		}
	}
}
