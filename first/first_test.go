package first_test

import (
	"testing"

	"bonsai/api"
	"bonsai/first"
	"bonsai/flow"
	"bonsai/gram"
	"bonsai/sample"
	"bonsai/set"
	"bonsai/tree"
)

func of(n api.Node, kids ...api.Tree) api.Tree {
	out, ok := tree.Of(n, kids)
	if !ok {
		panic("a node that does not fit")
	}
	return out
}

func seq(kids ...api.Tree) api.Tree    { return of(api.Node{Kind: api.Seq}, kids...) }
func choice(kids ...api.Tree) api.Tree { return of(api.Node{Kind: api.Choice}, kids...) }
func not(t api.Tree) api.Tree          { return of(api.Node{Kind: api.Not}, t) }
func and(t api.Tree) api.Tree          { return of(api.Node{Kind: api.And}, t) }
func rep(t api.Tree, least, most int) api.Tree {
	return of(api.Node{Kind: api.Rep, Min: least, Max: most}, t)
}
func free(s string) first.First   { return first.First{Set: set.Of(s), Free: true} }
func bound(s string) first.First  { return first.First{Set: set.Of(s)} }
func few(s *sample.Source) string { return s.Word(s.Below(3), "abc") }

func TestExamples(t *testing.T) {
	x, a, b := tree.Text("x"), tree.Text("a"), tree.Text("b")
	g := api.Grammar{Rules: []api.Def{{Name: "a", Body: choice(x, tree.Rule("a"))}, {Name: "b", Body: seq(rep(x, 0, 1), tree.Rule("b"))}, {Name: "c", Body: seq(rep(a, 0, -1), tree.Rule("a"))}}}
	l, e := first.Of(g)
	if e != api.OK || len(l) != 3 || l[0] != bound("x") || l[1] != bound("x") || l[2] != bound("ax") {
		t.Fatal(l, e)
	}
	for i, row := range []struct {
		t    api.Tree
		want first.First
	}{
		{tree.Text("ab"), bound("a")}, {seq(rep(a, 0, 1), b), bound("ab")}, {rep(a, 0, -1), free("a")}, {seq(not(a), tree.Set(set.Range('a', 'c'))), bound("abc")}, {rep(tree.Rule("a"), 0, 1), free("x")}, {and(tree.Set(api.Bytes{})), bound("")},
		{tree.Empty(), free("")}, {tree.Set(set.Of("pq")), bound("pq")}, {tree.Set(api.Bytes{}), bound("")}, {tree.Text("\xffa"), bound("\xff")}, {rep(a, 0, 0), free("")}, {rep(a, 1, 3), bound("a")}, {rep(rep(a, 0, 1), 2, 3), free("a")}, {not(a), free("")}, {not(tree.Empty()), bound("")},
		{and(tree.Empty()), free("")}, {not(tree.Set(api.Bytes{})), free("")}, {seq(rep(a, 0, 1), rep(b, 0, 1)), free("ab")}, {choice(a, b), bound("ab")}, {choice(a, tree.Empty()), free("a")}, {choice(tree.Empty(), a), free("a")}, {of(api.Node{Kind: api.Cap, Text: "n"}, rep(a, 0, 1)), free("a")},
		{seq(a, b), bound("a")}, {seq(not(tree.Rule("b")), b), bound("")},
	} {
		if got, ok := first.Tree(g, l, row.t); !ok || got != row.want {
			t.Error(i, got, ok)
		}
	}
}

func TestCalculus(t *testing.T) {
	s := sample.New(111)
	one := func() first.First { return first.First{Set: set.Of(few(s)), Free: s.OneIn(2)} }
	for range 5000 {
		a, b, c := one(), one(), one()
		want := a
		if a.Free {
			want = first.First{Set: set.Or(a.Set, b.Set), Free: b.Free}
		}
		if first.Seq(a, b) != want || first.Choice(a, b) != (first.First{Set: set.Or(a.Set, b.Set), Free: a.Free || b.Free}) {
			t.Fatal("Seq, Choice", a, b)
		}
		if first.Seq(first.Seq(a, b), c) != first.Seq(a, first.Seq(b, c)) || first.Choice(first.Choice(a, b), c) != first.Choice(a, first.Choice(b, c)) || first.Choice(a, b) != first.Choice(b, a) {
			t.Fatal("brackets", a, b, c)
		}
		if first.Seq(a, free("")) != a || first.Seq(free(""), a) != a {
			t.Fatal("what is Free, of no bytes", a)
		}
		if first.Within(a, b) != (set.Subset(a.Set, b.Set) && (!a.Free || b.Free)) {
			t.Fatal("Within", a, b)
		}
	}
}

// worked is S4's words of a node; kids are its kids'.
func worked(n api.Node, kids []first.First, f flow.Flow) first.First {
	var out first.First
	switch n.Kind {
	case api.Empty:
		out.Free = true
	case api.Set:
		out.Set = n.Set
	case api.Text:
		out.Set = set.Of(n.Text[:1])
	case api.Seq:
		out.Free = true
		for _, kid := range kids {
			if out.Free {
				out.Set = set.Or(out.Set, kid.Set)
			}
			out.Free = out.Free && kid.Free
		}
	case api.Choice:
		for _, kid := range kids {
			out.Set, out.Free = set.Or(out.Set, kid.Set), out.Free || kid.Free
		}
	case api.Rep:
		if out.Free = true; n.Max != 0 {
			out = first.First{Set: kids[0].Set, Free: kids[0].Free || n.Min == 0}
		}
	case api.And, api.Not:
		out.Free = f.Zero || f.Some
	case api.Cap:
		out = kids[0]
	}
	return out
}

func TestNodes(t *testing.T) {
	s := sample.New(112)
	told := 0
	for range 3000 {
		g := s.Grammar(3, 3)
		if gram.May(g) != api.OK {
			continue
		}
		told++
		var l []first.First
		for range 3 {
			l = append(l, first.First{Set: set.Of(few(s)), Free: s.OneIn(2)})
		}
		flows, _ := flow.Of(g)
		a := s.Tree(4, sample.Names(3))
		got, ok := first.Nodes(g, l, a)
		root, rooted := first.Tree(g, l, a)
		if !ok || !rooted || len(got) != len(a.Nodes) || got[a.Root] != root {
			t.Fatal("Nodes", got, ok)
		}
		f, _ := flow.Nodes(g, flows, a)
		for i, n := range a.Nodes {
			var kids []first.First
			for _, kid := range n.Kids {
				kids = append(kids, got[kid])
			}
			want := worked(n, kids, f[i])
			if n.Kind == api.Rule {
				want = l[gram.Find(g, n.Text)]
			}
			if got[i] != want {
				t.Fatal("at", i, n, got[i], want)
			}
		}
	}
	if told < 1000 {
		t.Fatal(told)
	}
}

// closed asks whether each rule's first is its body's, or (not just) has that within it.
func closed(g api.Grammar, l []first.First, just bool) bool {
	for i, d := range g.Rules {
		f, ok := first.Tree(g, l, d.Body)
		if !ok || !first.Within(f, l[i]) || just && f != l[i] {
			return false
		}
	}
	return true
}

func TestLeast(t *testing.T) {
	s := sample.New(113)
	told, others := 0, 0
	for range 2000 {
		g := s.Grammar(3, 3)
		l, e := first.Of(g)
		if e != gram.May(g) || e != api.OK && len(l) != 0 {
			t.Fatal(e)
		}
		if e != api.OK {
			continue
		}
		told++
		if len(l) != 3 || !closed(g, l, true) {
			t.Fatal("closed", l)
		}
		flows, _ := flow.Of(g)
		for i, d := range g.Rules {
			f, _ := flow.Nodes(g, flows, d.Body)
			nodes, _ := first.Nodes(g, l, d.Body)
			if f[d.Body.Root] != flows[i] {
				t.Fatal("flow")
			}
			for j, n := range nodes {
				if f[j].Zero && !n.Free || f[j].Some && n.Set == (api.Bytes{}) || !n.Free && n.Set == (api.Bytes{}) && f[j].Succeeds() {
					t.Fatal("as it flows", f[j], n)
				}
			}
		}
		for range 60 {
			other := []first.First{}
			for range 3 {
				other = append(other, first.First{Set: set.Or(l[s.Below(3)].Set, set.Of(few(s))), Free: s.OneIn(2)})
			}
			if closed(g, other, false) {
				others++
				for j := range l {
					if !first.Within(l[j], other[j]) {
						t.Fatal(l, "is not within", other)
					}
				}
			}
		}
	}
	if told < 500 || others < 1000 {
		t.Fatal(told, others)
	}
}

func TestWrong(t *testing.T) {
	g := api.Grammar{Rules: []api.Def{{Name: "a", Body: tree.Text("x")}, {Name: "b", Body: tree.Rule("a")}}}
	two := []first.First{bound("x"), bound("x")}
	no := func(g api.Grammar, l []first.First, a api.Tree) {
		t.Helper()
		nodes, ok := first.Nodes(g, l, a)
		root, is := first.Tree(g, l, a)
		if ok || is || len(nodes) != 0 || root != (first.First{}) {
			t.Error(nodes, root)
		}
	}
	no(g, two, tree.Rule("c"))
	no(g, two, seq(tree.Text("x"), tree.Rule("z")))
	no(g, two[:1], tree.Empty())
	no(g, nil, tree.Empty())
	no(g, append(two, two...), tree.Empty())
	no(g, two, api.Tree{})
	no(g, two, tree.Text(""))
	s := sample.New(114)
	for range 300 {
		if b := s.Broken(s.Tree(4, sample.Names(2))); !tree.Right(b) {
			no(g, two, b)
		}
	}
	for _, bad := range []api.Grammar{{}, {Rules: []api.Def{g.Rules[0], g.Rules[0]}}, {Rules: []api.Def{{Name: "a", Body: tree.Rule("c")}}}, {Rules: make([]api.Def, 65)}, {Rules: []api.Def{g.Rules[0], {Name: "b", Body: seq(tree.Empty(), tree.Empty())}}}} {
		no(bad, make([]first.First, len(bad.Rules)), tree.Empty())
		if l, e := first.Of(bad); e != gram.May(bad) || e == api.OK || len(l) != 0 {
			t.Error(l, e)
		}
	}
	if f, ok := first.Tree(g, two, sample.Deep(65536, api.Node{Kind: api.Cap, Text: "n"})); !ok || f != free("") {
		t.Error(f, ok)
	}
	before := gram.Copy(g)
	if _, _ = first.Of(g); !gram.Same(before, g) {
		t.Error("changed")
	}
}
