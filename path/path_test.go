package path_test

import (
	"reflect"
	"testing"

	"bonsai/api"
	"bonsai/expr"
	"bonsai/gram"
	"bonsai/parse"
	"bonsai/path"
	"bonsai/sample"
	"bonsai/tree"
)

func ex(t *testing.T, text string) api.Tree {
	t.Helper()
	x, _, e := parse.Expr(text)
	if e != api.OK {
		t.Fatal(text, e)
	}
	return x
}

func none(t api.Tree) bool { return len(t.Nodes) == 0 && t.Root == 0 }

func TestExamples(t *testing.T) {
	a := ex(t, "\"a\" (x / y)")
	for _, row := range []struct {
		path []int
		want string
	}{{nil, "\"a\" (x / y)"}, {[]int{0}, "\"a\""}, {[]int{1}, "x / y"}, {[]int{1, 0}, "x"}, {[]int{1, 1}, "y"}} {
		if got, ok := path.At(a, row.path); !ok || !tree.Same(got, ex(t, row.want)) {
			t.Error(row, got)
		}
	}
	for _, p := range [][]int{{2}, {-1}, {0, 0}, {1, 2}, {1, 0, 0}, {1 << 40}} {
		got, ok := path.At(a, p)
		put, is := path.Put(a, p, tree.Empty())
		if ok || is || !none(got) || !none(put) {
			t.Error(p, got, put)
		}
	}
	for _, row := range []struct {
		path    []int
		x, want string
	}{
		{[]int{0}, "", "x / y"}, {[]int{0}, "p q", "p q (x / y)"}, {[]int{1}, "", "\"a\""}, {[]int{1, 0}, "p / q", "\"a\" (p / q / y)"}, {[]int{1, 1}, "", "\"a\" (x / \"\")"}, {nil, "z", "z"}, {[]int{1}, "p q", "\"a\" p q"}, {[]int{1, 0}, "p q", "\"a\" (p q / y)"},
	} {
		if got, ok := path.Put(a, row.path, ex(t, row.x)); !ok || !tree.Same(got, ex(t, row.want)) {
			t.Error(row, got)
		}
	}
	deep := ex(t, "!(p (q (r / s) / t))* u")
	if got, ok := path.Put(deep, []int{0, 0, 0, 1}, ex(t, "v / w")); !ok || !tree.Same(got, ex(t, "!(p (v / w))* u")) {
		t.Error(got, ok)
	}
	if got, ok := path.Put(deep, []int{0, 0, 0, 1, 0}, ex(t, "v / w")); !ok || !tree.Same(got, ex(t, "!(p (v / w / t))* u")) {
		t.Error(got, ok)
	}
	if got, ok := path.Put(deep, []int{0, 0, 0, 0}, tree.Empty()); !ok || !tree.Same(got, ex(t, "!(q (r / s) / t)* u")) {
		t.Error(got, ok)
	}
}

// put puts x at a path by calls within calls, and makes all normal behind.
func put(a api.Tree, p []int, x api.Tree) api.Tree {
	if len(p) == 0 {
		return x
	}
	kids := tree.Kids(a)
	kids[p[0]] = put(kids[p[0]], p[1:], x)
	out, _ := tree.Of(tree.Root(a), kids)
	return out
}

func at(a api.Tree, p []int) api.Tree {
	for _, i := range p {
		a = tree.Kids(a)[i]
	}
	return tree.Clean(a)
}

// paths is a tree's paths, in their row.
func paths(a api.Tree, from []int) [][]int {
	out := [][]int{from}
	for i, kid := range tree.Kids(a) {
		out = append(out, paths(kid, append(append([]int{}, from...), i))...)
	}
	return out
}

func TestPut(t *testing.T) {
	s := sample.New(181)
	names := sample.Names(2)
	for range 2000 {
		a, x := s.Tree(1+s.Below(4), names), s.Tree(1+s.Below(3), names)
		if s.OneIn(4) {
			a = s.Normal(4, names)
		}
		beforeA, beforeX := tree.Clean(a), tree.Clean(x)
		normal, _ := expr.Make(a)
		for _, p := range paths(a, nil) {
			stands := at(a, p)
			got, ok := path.At(a, p)
			if !ok || !reflect.DeepEqual(got, stands) {
				t.Fatal("At", p, got, stands)
			}
			want, _ := expr.Make(put(a, p, x))
			got, ok = path.Put(a, p, x)
			if !ok || !reflect.DeepEqual(got, want) || !expr.Normal(got) {
				t.Fatal("Put", p, got, want)
			}
			if same, ok := path.Put(a, p, stands); !ok || !tree.Same(same, normal) {
				t.Fatal("what stands there", p)
			}
			cut := s.Below(len(p) + 1)
			inner, _ := path.Put(at(a, p[:cut]), p[cut:], x)
			if two, ok := path.Put(a, p[:cut], inner); !ok || !tree.Same(two, got) {
				t.Fatal("at the rest of a path, and then at its beginning", p)
			}
			for i := range got.Nodes {
				for j := range got.Nodes[i].Kids {
					got.Nodes[i].Kids[j] = -3
				}
			}
		}
		if !tree.Same(beforeA, a) || !tree.Same(beforeX, x) {
			t.Fatal("changed")
		}
	}
}

func TestWrong(t *testing.T) {
	s := sample.New(182)
	x := tree.Text("x")
	bad := []api.Tree{{}, tree.Text(""), {Nodes: []api.Node{{}, {}}, Root: 1}}
	for range 300 {
		if b := s.Broken(s.Tree(4, nil)); !tree.Right(b) {
			bad = append(bad, b)
		}
	}
	g := api.Grammar{Rules: []api.Def{{Name: "a", Body: x}, {Name: "a", Body: api.Tree{}}}}
	for _, b := range bad {
		for _, p := range [][]int{{0}, {0, 0}, {1}} {
			if got, ok := path.At(b, p); ok || !none(got) {
				t.Fatal(b)
			}
			if got, ok := path.Put(b, p, x); ok || !none(got) {
				t.Fatal(b)
			}
		}
		one, ok1 := path.At(b, nil)
		two, ok2 := path.Put(b, nil, x)
		three, ok3 := path.Put(x, nil, b)
		four, ok4 := path.With(g, path.Place{}, b)
		if ok1 || ok2 || ok3 || ok4 || !none(one) || !none(two) || !none(three) || len(four.Rules) != 0 {
			t.Fatal(b)
		}
	}
	for _, p := range []path.Place{{Rule: -1}, {Rule: 2}, {Rule: 1}, {Rule: 0, Path: []int{0}}} {
		one, ok1 := path.Find(g, p)
		two, ok2 := path.With(g, p, x)
		if ok1 || ok2 || !none(one) || len(two.Rules) != 0 {
			t.Error(p)
		}
	}
	if got, ok := path.With(g, path.Place{}, tree.Rule("zz")); !ok || len(got.Rules) != 2 || !tree.Same(got.Rules[0].Body, tree.Rule("zz")) || len(got.Rules[1].Body.Nodes) != 0 || got.Rules[1].Name != "a" {
		t.Error("it need not be one that may be", got)
	}
	for _, bad := range []api.Grammar{{}, g, {Rules: []api.Def{{Name: "a", Body: tree.Rule("b")}}}} {
		if len(path.All(bad)) != 0 {
			t.Error("All of one that may not be")
		}
	}
	deep := sample.Deep(65536, api.Node{Kind: api.Not})
	long := make([]int, 65535)
	if got, ok := path.Put(deep, long, x); !ok || tree.Size(got) != 65536 {
		t.Error("deep")
	}
	if got, ok := path.At(deep, long); !ok || !tree.Same(got, tree.Empty()) {
		t.Error("deep")
	}
}

func TestAll(t *testing.T) {
	s := sample.New(183)
	tried := 0
	for range 500 {
		g := s.Grammar(1+s.Below(4), 1+s.Below(5))
		if gram.May(g) != api.OK {
			continue
		}
		tried++
		var want []path.Place
		for i, d := range g.Rules {
			for _, p := range paths(d.Body, nil) {
				want = append(want, path.Place{Rule: i, Path: p})
			}
		}
		got := path.All(g)
		if len(got) != len(want) || len(got) != gram.Nodes(g) {
			t.Fatal("All", len(got), len(want))
		}
		for i, p := range got {
			if path.Compare(p, want[i]) != 0 || p.Rule != want[i].Rule || i > 0 && path.Compare(got[i-1], p) != -1 {
				t.Fatal("All", p, want[i])
			}
			x, ok := path.Find(g, p)
			if !ok || !tree.Same(x, at(g.Rules[p.Rule].Body, p.Path)) {
				t.Fatal("Find", p)
			}
			same, ok := path.With(g, p, x)
			if !ok || !gram.Same(same, g) {
				t.Fatal("With", p)
			}
		}
		a, b := got[s.Below(len(got))], got[s.Below(len(got))]
		x, y := s.Tree(2, nil), s.Tree(2, nil)
		one, _ := path.With(g, a, x)
		body, _ := expr.Make(put(g.Rules[a.Rule].Body, a.Path, x))
		if want, _ := gram.With(g, a.Rule, body); !gram.Same(one, want) {
			t.Fatal("With", a)
		}
		if a.Rule != b.Rule {
			two, _ := path.With(one, b, y)
			three, _ := path.With(g, b, y)
			if three, _ = path.With(three, a, x); !gram.Same(two, three) {
				t.Fatal("apart")
			}
		}
		for _, p := range got {
			for i := range p.Path {
				p.Path[i] = -4
			}
			_ = append(p.Path, 99)
		}
		for i, p := range path.All(g) {
			if path.Compare(p, want[i]) != 0 {
				t.Fatal("memory is shared")
			}
		}
	}
	if tried < 200 {
		t.Fatal(tried)
	}
}

func TestCompare(t *testing.T) {
	row := []path.Place{{Rule: -1, Path: []int{5}}, {}, {Path: []int{-1}}, {Path: []int{0}}, {Path: []int{0, 0}}, {Path: []int{0, 0, 7}}, {Path: []int{0, 1}}, {Path: []int{0, 10}}, {Path: []int{1}}, {Path: []int{9}}, {Path: []int{10}}, {Rule: 1}, {Rule: 1, Path: []int{0}}, {Rule: 2}}
	for i, a := range row {
		for j, b := range row {
			want := 0
			if i < j {
				want = -1
			} else if i > j {
				want = 1
			}
			if got := path.Compare(a, b); got != want {
				t.Error(a, b, got)
			}
		}
	}
}
