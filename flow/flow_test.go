package flow_test

import (
	"reflect"
	"testing"

	"bonsai/api"
	"bonsai/flow"
	"bonsai/gram"
	"bonsai/sample"
	"bonsai/tree"
)

func of(n api.Node, kids ...api.Tree) api.Tree {
	out, ok := tree.Of(n, kids)
	if !ok {
		panic("a node that does not fit")
	}
	return out
}

func seq(kids ...api.Tree) api.Tree    { return of(api.Node{Kind: api.Seq}, kids...) }
func choice(kids ...api.Tree) api.Tree { return of(api.Node{Kind: api.Choice}, kids...) }
func not(t api.Tree) api.Tree          { return of(api.Node{Kind: api.Not}, t) }
func and(t api.Tree) api.Tree          { return of(api.Node{Kind: api.And}, t) }
func capt(t api.Tree) api.Tree         { return of(api.Node{Kind: api.Cap, Text: "n"}, t) }
func rep(t api.Tree, least, most int) api.Tree {
	return of(api.Node{Kind: api.Rep, Min: least, Max: most}, t)
}

// eight is each flow that there is.
func eight() []flow.Flow {
	var out []flow.Flow
	for i := range 8 {
		out = append(out, flow.Flow{Zero: i&1 != 0, Some: i&2 != 0, Fail: i&4 != 0})
	}
	return out
}

func TestExamples(t *testing.T) {
	x := tree.Text("x")
	g := api.Grammar{Rules: []api.Def{
		{Name: "a", Body: choice(seq(x, tree.Rule("a")), tree.Empty())}, {Name: "b", Body: tree.Rule("b")}, {Name: "c", Body: not(tree.Rule("c"))}, {Name: "d", Body: choice(tree.Set(api.Bytes{}), tree.Text("y"))},
	}}
	l, e := flow.Of(g)
	want := []flow.Flow{{Zero: true, Some: true}, {}, {}, {Some: true, Fail: true}}
	if e != api.OK || !reflect.DeepEqual(l, want) {
		t.Fatal(l, e)
	}
	for i, row := range []struct {
		t    api.Tree
		want flow.Flow
	}{
		{rep(rep(x, 0, 1), 0, -1), flow.Flow{Zero: true, Some: true}}, {rep(x, 2, 2), flow.Flow{Some: true, Fail: true}}, {rep(tree.Rule("b"), 0, 0), flow.Flow{Zero: true}}, {tree.Set(api.Bytes{}), flow.Flow{Fail: true}}, {tree.Set(api.Bytes{1}), flow.Flow{Some: true, Fail: true}},
		{tree.Empty(), flow.Flow{Zero: true}}, {x, flow.Flow{Some: true, Fail: true}}, {tree.Rule("a"), want[0]}, {rep(tree.Rule("b"), 0, 3), flow.Flow{}}, {rep(tree.Set(api.Bytes{}), 0, 3), flow.Flow{Zero: true}},
	} {
		if got, ok := flow.Tree(g, l, row.t); !ok || got != row.want {
			t.Error(i, got, ok)
		}
	}
}

// worked is S4's table, row by row.
func worked(n api.Node, kids []flow.Flow) flow.Flow {
	ahead := func(i int, by func(flow.Flow) bool) bool {
		for _, kid := range kids[:i] {
			if !by(kid) {
				return false
			}
		}
		return true
	}
	zero := func(f flow.Flow) bool { return f.Zero }
	fail := func(f flow.Flow) bool { return f.Fail }
	succeeds := func(f flow.Flow) bool { return f.Zero || f.Some }
	var out flow.Flow
	all := len(kids)
	switch n.Kind {
	case api.Seq:
		out.Zero = ahead(all, zero)
		for i, kid := range kids {
			out.Some = out.Some || kid.Some && ahead(all, succeeds)
			out.Fail = out.Fail || kid.Fail && ahead(i, succeeds)
		}
	case api.Choice:
		out.Fail = ahead(all, fail)
		for i, kid := range kids {
			out.Zero = out.Zero || kid.Zero && ahead(i, fail)
			out.Some = out.Some || kid.Some && ahead(i, fail)
		}
	case api.Rep:
		if n.Max == 0 {
			return flow.Flow{Zero: true}
		}
		out = flow.Flow{Zero: kids[0].Zero || n.Min == 0 && kids[0].Fail, Some: kids[0].Some, Fail: n.Min > 0 && kids[0].Fail}
	case api.And:
		out = flow.Flow{Zero: succeeds(kids[0]), Fail: kids[0].Fail}
	case api.Not:
		out = flow.Flow{Zero: kids[0].Fail, Fail: succeeds(kids[0])}
	case api.Cap:
		return kids[0]
	}
	return out
}

func TestTable(t *testing.T) {
	g := sample.New(1).Grammar(3, 1)
	kid := []api.Tree{tree.Rule("a"), tree.Rule("b"), tree.Rule("c")}
	for _, a := range eight() {
		if a.Succeeds() != (a.Zero || a.Some) {
			t.Error("Succeeds", a)
		}
		for _, b := range eight() {
			within := (!a.Zero || b.Zero) && (!a.Some || b.Some) && (!a.Fail || b.Fail)
			if flow.Within(a, b) != within {
				t.Error("Within", a, b)
			}
			for _, c := range eight() {
				l := []flow.Flow{a, b, c}
				for _, row := range []struct {
					n    api.Node
					kids int
				}{{api.Node{Kind: api.Seq}, 2}, {api.Node{Kind: api.Seq}, 3}, {api.Node{Kind: api.Choice}, 2}, {api.Node{Kind: api.Choice}, 3}, {api.Node{Kind: api.And}, 1}, {api.Node{Kind: api.Not}, 1}, {api.Node{Kind: api.Cap, Text: "n"}, 1},
					{api.Node{Kind: api.Rep}, 1}, {api.Node{Kind: api.Rep, Max: 1}, 1}, {api.Node{Kind: api.Rep, Max: -1}, 1}, {api.Node{Kind: api.Rep, Min: 1, Max: 1}, 1}, {api.Node{Kind: api.Rep, Min: 2, Max: -1}, 1}} {
					got, ok := flow.Tree(g, l, of(row.n, kid[:row.kids]...))
					if want := worked(row.n, l[:row.kids]); !ok || got != want {
						t.Fatal(row.n, l, got, "not", want)
					}
				}
			}
		}
	}
}

func TestNodes(t *testing.T) {
	s := sample.New(101)
	for range 2000 {
		g := s.Grammar(3, 3)
		l := []flow.Flow{eight()[s.Below(8)], eight()[s.Below(8)], eight()[s.Below(8)]}
		a := s.Tree(4, sample.Names(3))
		got, ok := flow.Nodes(g, l, a)
		root, rooted := flow.Tree(g, l, a)
		if !ok || !rooted || len(got) != len(a.Nodes) || got[a.Root] != root {
			t.Fatal("Nodes", got, ok)
		}
		for i, n := range a.Nodes {
			sub, _ := tree.Sub(a, i)
			one, _ := flow.Tree(g, l, sub)
			var kids []flow.Flow
			for _, kid := range n.Kids {
				kids = append(kids, got[kid])
			}
			if one != got[i] || len(kids) > 0 && got[i] != worked(n, kids) || n.Kind == api.Rule && got[i] != l[gram.Find(g, n.Text)] {
				t.Fatal("at", i, n, got[i])
			}
		}
		laws(t, g, l, a, s.Tree(3, sample.Names(3)), s.Tree(2, sample.Names(3)))
		more := []flow.Flow{l[0], l[1], l[2]}
		if i := s.Below(3); s.OneIn(2) {
			more[i].Fail = true
		} else {
			more[i].Zero, more[i].Some = true, more[i].Some || s.OneIn(2)
		}
		if up, _ := flow.Tree(g, more, a); !flow.Within(root, up) {
			t.Fatal("greater flows, a lesser one", l, more, a)
		}
	}
}

func laws(t *testing.T, g api.Grammar, l []flow.Flow, a, b, c api.Tree) {
	t.Helper()
	tell := func(t api.Tree) flow.Flow {
		f, _ := flow.Tree(g, l, t)
		return f
	}
	if tell(seq(a, b, c)) != tell(seq(a, seq(b, c))) || tell(choice(a, b, c)) != tell(choice(a, choice(b, c))) || tell(capt(a)) != tell(a) {
		t.Fatal("a row of kids")
	}
	if tell(and(a)).Some || tell(not(a)).Some || tell(not(not(a))) != tell(and(a)) {
		t.Fatal("predicates")
	}
}

func TestLeast(t *testing.T) {
	s := sample.New(102)
	told := 0
	for range 1500 {
		g := s.Grammar(3, 3)
		l, e := flow.Of(g)
		if e != gram.May(g) || e != api.OK && len(l) != 0 {
			t.Fatal(e)
		}
		if e != api.OK {
			continue
		}
		told++
		if len(l) != 3 || !closed(g, l, true) {
			t.Fatal("closed", l)
		}
		for i := range 512 {
			other := []flow.Flow{eight()[i&7], eight()[i>>3&7], eight()[i>>6]}
			if closed(g, other, false) {
				for j := range l {
					if !flow.Within(l[j], other[j]) {
						t.Fatal(l, "is not within", other)
					}
				}
			}
		}
	}
	if told < 500 {
		t.Fatal(told)
	}
}

// closed asks whether each rule's flow is its body's, or (not just) has that within it.
func closed(g api.Grammar, l []flow.Flow, just bool) bool {
	for i, d := range g.Rules {
		f, ok := flow.Tree(g, l, d.Body)
		if !ok || !flow.Within(f, l[i]) || just && f != l[i] {
			return false
		}
	}
	return true
}

func TestWrong(t *testing.T) {
	s := sample.New(103)
	g := s.Grammar(2, 2)
	two := make([]flow.Flow, 2)
	no := func(g api.Grammar, l []flow.Flow, a api.Tree) {
		t.Helper()
		nodes, ok := flow.Nodes(g, l, a)
		root, is := flow.Tree(g, l, a)
		if ok || is || len(nodes) != 0 || root != (flow.Flow{}) {
			t.Error(nodes, root)
		}
	}
	no(g, two, tree.Rule("c"))
	no(g, two, seq(tree.Text("x"), tree.Rule("z")))
	no(g, two[:1], tree.Empty())
	no(g, nil, tree.Empty())
	no(g, make([]flow.Flow, 3), tree.Empty())
	no(g, two, api.Tree{})
	no(g, two, tree.Text(""))
	for range 500 {
		if b := s.Broken(s.Tree(4, sample.Names(2))); !tree.Right(b) {
			no(g, two, b)
		}
	}
	// Of a grammar that may not be the first rule of a name is meant.
	twice := api.Grammar{Rules: []api.Def{{Name: "a"}, {Name: "a"}}}
	if f, ok := flow.Tree(twice, eight()[1:3], tree.Rule("a")); !ok || f != eight()[1] {
		t.Error(f, ok)
	}
	if f, ok := flow.Tree(api.Grammar{}, nil, tree.Empty()); !ok || f != (flow.Flow{Zero: true}) {
		t.Error(f, ok)
	}
	if f, ok := flow.Tree(g, two, sample.Deep(65536, api.Node{Kind: api.Not})); !ok || f != (flow.Flow{Fail: true}) {
		t.Error(f, ok)
	}
	for _, bad := range []api.Grammar{{}, twice, {Rules: []api.Def{{Name: "a", Body: tree.Rule("b")}}}, {Rules: make([]api.Def, 65)}} {
		if l, e := flow.Of(bad); e != gram.May(bad) || e == api.OK || len(l) != 0 {
			t.Error(l, e)
		}
	}
	before := gram.Copy(g)
	if _, _ = flow.Of(g); !gram.Same(before, g) {
		t.Error("changed")
	}
}
