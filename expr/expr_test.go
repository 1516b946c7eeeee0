package expr_test

import (
	"reflect"
	"strings"
	"testing"

	"bonsai/api"
	"bonsai/expr"
	"bonsai/sample"
	"bonsai/tree"
)

var names = []string{"a", "b", "c"}

func of(kind uint8, kids ...api.Tree) api.Tree {
	out, ok := tree.Of(api.Node{Kind: kind}, kids)
	if !ok {
		panic("a node that does not fit")
	}
	return out
}

// made is a tree made normal, worked out from the root on.
func made(t api.Tree) api.Tree {
	root := tree.Root(t)
	var kids []api.Tree
	for _, kid := range tree.Kids(t) {
		kid = made(kid)
		kind := tree.Root(kid).Kind
		switch {
		case root.Kind == api.Seq && kind == api.Empty:
		case kind == root.Kind && (kind == api.Seq || kind == api.Choice):
			kids = append(kids, tree.Kids(kid)...)
		default:
			kids = append(kids, kid)
		}
	}
	if root.Kind == api.Seq || root.Kind == api.Choice {
		switch {
		case len(kids) == 0 && root.Kind == api.Seq:
			return tree.Empty()
		case len(kids) == 0:
			return tree.Set(api.Bytes{})
		case len(kids) == 1:
			return kids[0]
		}
	}
	out, ok := tree.Of(root, kids)
	if !ok {
		panic("a node that does not fit")
	}
	return out
}

// clean tells whether two trees have the same nodes, just so.
func just(a, b api.Tree) bool {
	c := tree.Clean(b)
	if len(a.Nodes) != len(c.Nodes) || a.Root != c.Root || !tree.Same(a, b) {
		return false
	}
	for i, n := range a.Nodes {
		if n.Kind != c.Nodes[i].Kind || n.Text != c.Nodes[i].Text || len(n.Kids) != len(c.Nodes[i].Kids) {
			return false
		}
		for j, kid := range n.Kids {
			if kid != c.Nodes[i].Kids[j] {
				return false
			}
		}
	}
	return true
}

func justs(a, b []api.Tree) bool {
	if len(a) != len(b) {
		return false
	}
	for i := range a {
		if !just(a[i], b[i]) {
			return false
		}
	}
	return true
}

func none(t api.Tree) bool { return len(t.Nodes) == 0 && t.Root == 0 }

func must(t *testing.T, got api.Tree, ok bool, want api.Tree) {
	t.Helper()
	if !ok || !just(got, want) {
		t.Fatal("got", got, ok, "want", want)
	}
}

func TestExamples(t *testing.T) {
	a, b, c := tree.Text("a"), tree.Text("b"), tree.Text("c")
	got, ok := expr.Seq([]api.Tree{a, tree.Empty(), of(api.Seq, b, c)})
	must(t, got, ok, of(api.Seq, a, b, c))
	head, ok := expr.Head(got)
	must(t, head, ok, a)
	tail, ok := expr.Tail(got)
	must(t, tail, ok, of(api.Seq, b, c))
	got, ok = expr.Seq(nil)
	must(t, got, ok, tree.Empty())
	got, ok = expr.Seq([]api.Tree{tree.Empty()})
	must(t, got, ok, tree.Empty())
	got, ok = expr.Choice([]api.Tree{of(api.Choice, a, b), c})
	must(t, got, ok, of(api.Choice, a, b, c))
	got, ok = expr.Choice(nil)
	must(t, got, ok, tree.Set(api.Bytes{}))
	star, ok := expr.Rep(a, 0, -1)
	must(t, star, ok, star)
	head, ok = expr.Head(star)
	must(t, head, ok, star)
	tail, ok = expr.Tail(star)
	must(t, tail, ok, tree.Empty())
	if got, ok := expr.Rep(a, 3, 2); ok || !none(got) {
		t.Fatal("Rep 3, 2")
	}
	got, ok = expr.Choice([]api.Tree{tree.Empty(), tree.Empty()})
	must(t, got, ok, of(api.Choice, tree.Empty(), tree.Empty()))
}

func TestNodes(t *testing.T) {
	s := sample.New(51)
	for range 1000 {
		a := s.Tree(4, names)
		want := made(a)
		for _, row := range []struct{ least, most int }{{0, -1}, {0, 1}, {1, -1}, {0, 0}, {2, 2}, {99, 99}, {99, -1}, {3, 99}, {-1, -1}, {2, 1}, {0, 100}, {100, 100}, {100, -1}, {0, -2}} {
			n := api.Node{Kind: api.Rep, Min: row.least, Max: row.most}
			got, ok := expr.Rep(a, row.least, row.most)
			whole, fits := tree.Of(n, []api.Tree{want})
			if ok != fits || ok && !just(got, whole) || !ok && !none(got) {
				t.Fatal("Rep", row, got)
			}
		}
		got, ok := expr.And(a)
		must(t, got, ok, of(api.And, want))
		got, ok = expr.Not(a)
		must(t, got, ok, of(api.Not, want))
		for _, name := range []string{"x", "_9", "", "9", "a b", strings.Repeat("n", 32), strings.Repeat("n", 33)} {
			got, ok := expr.Cap(name, a)
			whole, fits := tree.Of(api.Node{Kind: api.Cap, Text: name}, []api.Tree{want})
			if ok != fits || ok && !just(got, whole) || !ok && !none(got) {
				t.Fatal("Cap", name)
			}
		}
	}
}

func TestNotRight(t *testing.T) {
	s := sample.New(52)
	x := tree.Text("x")
	bad := []api.Tree{{}, tree.Text(""), tree.Rule("9"), {Nodes: []api.Node{{}, {}}, Root: 1}, {Nodes: []api.Node{{}}, Root: 7}}
	for range 1000 {
		if b := s.Broken(s.Tree(4, names)); !tree.Right(b) {
			bad = append(bad, b)
		}
	}
	for _, b := range bad {
		var outs [10]api.Tree
		var oks [10]bool
		outs[0], oks[0] = expr.Make(b)
		outs[1], oks[1] = expr.Seq([]api.Tree{b})
		outs[2], oks[2] = expr.Seq([]api.Tree{x, b, x})
		outs[3], oks[3] = expr.Choice([]api.Tree{x, b})
		outs[4], oks[4] = expr.Rep(b, 0, 1)
		outs[5], oks[5] = expr.And(b)
		outs[6], oks[6] = expr.Not(b)
		outs[7], oks[7] = expr.Cap("n", b)
		outs[8], oks[8] = expr.Head(b)
		outs[9], oks[9] = expr.Tail(b)
		for i := range outs {
			if oks[i] || !none(outs[i]) {
				t.Fatal(i, b, outs[i])
			}
		}
		if expr.Normal(b) || len(expr.Parts(b)) != 0 || len(expr.Ways(b)) != 0 {
			t.Fatal("of no right one", b)
		}
	}
}

// normal is S1's words, node by node.
func normal(t api.Tree) bool {
	for _, n := range t.Nodes {
		for _, kid := range n.Kids {
			k := t.Nodes[kid].Kind
			if n.Kind == api.Seq && (k == api.Seq || k == api.Empty) || n.Kind == api.Choice && k == api.Choice {
				return false
			}
		}
	}
	return true
}

func TestMake(t *testing.T) {
	s := sample.New(53)
	normals := 0
	for range 4000 {
		a := s.Tree(1+s.Below(5), names)
		before := tree.Clean(a)
		got, ok := expr.Make(a)
		must(t, got, ok, made(a))
		if !expr.Normal(got) || expr.Normal(a) != normal(a) || !normal(got) {
			t.Fatal("Normal", a)
		}
		again, ok := expr.Make(got)
		must(t, again, ok, got)
		if normal(a) {
			normals++
			if !tree.Same(got, a) {
				t.Fatal("a normal one is made what it is")
			}
		}
		if !tree.Same(before, a) {
			t.Fatal("changed")
		}
	}
	if normals < 500 || normals > 3500 {
		t.Fatal(normals)
	}
}

func TestParts(t *testing.T) {
	s := sample.New(54)
	for range 2000 {
		var l, parts, ways []api.Tree
		for range s.Below(5) {
			a := s.Tree(1+s.Below(4), names)
			l = append(l, a)
			parts = append(parts, expr.Parts(a)...)
			ways = append(ways, expr.Ways(a)...)
		}
		seq, ok := expr.Seq(l)
		if !ok || !justs(expr.Parts(seq), parts) {
			t.Fatal("Parts of a Seq", l)
		}
		choice, ok := expr.Choice(l)
		if !ok || len(l) > 0 && !justs(expr.Ways(choice), ways) {
			t.Fatal("Ways of a Choice", l)
		}
		for _, a := range l {
			want := made(a)
			got, ok := expr.Seq(expr.Parts(a))
			must(t, got, ok, want)
			got, ok = expr.Choice(expr.Ways(a))
			must(t, got, ok, want)
			parted(t, a, want)
		}
	}
	if len(expr.Parts(tree.Empty())) != 0 || len(expr.Ways(tree.Empty())) != 1 {
		t.Fatal("of Empty")
	}
}

// parted holds the parts, ways, head and tail of a against what is told of it, made normal.
func parted(t *testing.T, a, want api.Tree) {
	t.Helper()
	parts, ways := []api.Tree{want}, []api.Tree{want}
	switch tree.Root(want).Kind {
	case api.Seq:
		parts = tree.Kids(want)
	case api.Empty:
		parts = nil
	case api.Choice:
		ways = tree.Kids(want)
	}
	if !justs(expr.Parts(a), parts) || !justs(expr.Ways(a), ways) {
		t.Fatal("Parts, Ways", a)
	}
	head, has := expr.Head(a)
	tail, tails := expr.Tail(a)
	if has != (len(parts) > 0) || tails != has {
		t.Fatal("Head, Tail", a)
	}
	if !has {
		if !none(head) || !none(tail) {
			t.Fatal("Head, Tail of none", a)
		}
		return
	}
	rest := tree.Empty()
	if len(parts) == 2 {
		rest = parts[1]
	} else if len(parts) > 2 {
		rest = of(api.Seq, parts[1:]...)
	}
	if !just(head, parts[0]) || !just(tail, rest) {
		t.Fatal("Head, Tail", a, head, tail)
	}
	whole, ok := expr.Seq([]api.Tree{head, tail})
	must(t, whole, ok, want)
}

func TestBrackets(t *testing.T) {
	s := sample.New(55)
	for range 1000 {
		a, b, c := s.Tree(3, names), s.Tree(3, names), s.Tree(3, names)
		for _, join := range []func([]api.Tree) (api.Tree, bool){expr.Seq, expr.Choice} {
			whole, ok := join([]api.Tree{a, b, c})
			bc, _ := join([]api.Tree{b, c})
			ab, _ := join([]api.Tree{a, b})
			right, _ := join([]api.Tree{a, bc})
			left, _ := join([]api.Tree{ab, c})
			one, _ := join([]api.Tree{a})
			must(t, right, ok, whole)
			must(t, left, ok, whole)
			must(t, one, ok, made(a))
		}
	}
}

func TestDeep(t *testing.T) {
	for _, n := range []api.Node{{Kind: api.Not}, {Kind: api.Cap, Text: "n"}, {Kind: api.Rep, Max: -1}} {
		deep := sample.Deep(65536, n)
		got, ok := expr.Make(deep)
		must(t, got, ok, deep)
		head, ok := expr.Head(deep)
		must(t, head, ok, deep)
	}
	nodes := []api.Node{{Kind: api.Text, Text: "x"}}
	for range 30000 {
		nodes = append(nodes, api.Node{}, api.Node{Kind: api.Seq, Kids: []int{len(nodes) - 1, len(nodes)}})
	}
	got, ok := expr.Make(api.Tree{Nodes: nodes, Root: len(nodes) - 1})
	must(t, got, ok, tree.Text("x"))
	nodes = nodes[:1]
	for range 30000 {
		nodes = append(nodes, api.Node{Kind: api.Text, Text: "y"}, api.Node{Kind: api.Choice, Kids: []int{len(nodes) - 1, len(nodes)}})
	}
	got, ok = expr.Make(api.Tree{Nodes: nodes, Root: len(nodes) - 1})
	if !ok || tree.Size(got) != 30002 || tree.Depth(got) != 2 {
		t.Fatal("a deep Choice")
	}
}

func TestNoSharing(t *testing.T) {
	s := sample.New(56)
	for range 300 {
		l := []api.Tree{s.Tree(4, names), s.Tree(3, names)}
		before := []api.Tree{tree.Clean(l[0]), tree.Clean(l[1])}
		first := answers(l)
		want := answers(l)
		for i, out := range first {
			for j := range out.Nodes {
				for k := range out.Nodes[j].Kids {
					out.Nodes[j].Kids[k] = -7
				}
				out.Nodes[j] = api.Node{Kind: 99}
			}
			for j := i + 1; j < len(first); j++ {
				if !reflect.DeepEqual(first[j], want[j]) {
					t.Fatal("two answers share memory")
				}
			}
		}
		if !tree.Same(l[0], before[0]) || !tree.Same(l[1], before[1]) {
			t.Fatal("an answer shares memory with what was handed in")
		}
	}
}

func answers(l []api.Tree) []api.Tree {
	seq, _ := expr.Seq(l)
	choice, _ := expr.Choice(l)
	rep, _ := expr.Rep(l[0], 1, 2)
	not, _ := expr.Not(l[0])
	whole, _ := expr.Make(l[0])
	outs := []api.Tree{seq, choice, rep, not, whole}
	outs = append(outs, expr.Parts(l[0])...)
	outs = append(outs, expr.Ways(l[0])...)
	if head, ok := expr.Head(l[0]); ok {
		tail, _ := expr.Tail(l[0])
		outs = append(outs, head, tail)
	}
	return outs
}
