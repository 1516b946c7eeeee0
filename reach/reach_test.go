package reach_test

import (
	"reflect"
	"testing"

	"bonsai/api"
	"bonsai/expr"
	"bonsai/gram"
	"bonsai/reach"
	"bonsai/sample"
	"bonsai/tree"
)

// calling is a grammar of rules, named a, b, and so on, that call those of each text.
func calling(l ...string) api.Grammar {
	names := sample.Names(len(l))
	var g api.Grammar
	for i, called := range l {
		parts := []api.Tree{tree.Text("x")}
		for _, c := range called {
			if at := int(c - 'a'); at < len(names) {
				parts = append(parts, tree.Rule(names[at]))
			}
		}
		body, _ := expr.Seq(parts)
		if i%2 == 1 {
			body, _ = expr.Choice(parts)
		}
		g.Rules = append(g.Rules, api.Def{Name: names[i], Body: body})
	}
	return g
}

func same(a, b []int) bool { return len(a) == len(b) && (len(a) == 0 || reflect.DeepEqual(a, b)) }

func TestExamples(t *testing.T) {
	g := calling("b", "c", "b", "a")
	if !same(reach.Calls(g, 0), []int{1}) || !same(reach.From(g, 0), []int{0, 1, 2}) {
		t.Error(reach.Calls(g, 0), reach.From(g, 0))
	}
	for i, want := range []bool{false, true, true, false} {
		if reach.Self(g, i) != want {
			t.Error("Self", i)
		}
	}
	if !same(reach.Useless(g), []int{3}) {
		t.Error(reach.Useless(g))
	}
	if got := reach.Rounds(g); !reflect.DeepEqual(got, [][]int{{0}, {1, 2}, {3}}) {
		t.Error(got)
	}
	one := calling("a")
	if !reach.Self(one, 0) || !same(reach.Calls(one, 0), []int{0}) || len(reach.Useless(one)) != 0 {
		t.Error("one that calls itself")
	}
	if two := calling("dcdc", "", "", ""); !same(reach.Calls(two, 0), []int{2, 3}) || len(reach.Calls(two, 1)) != 0 || !same(reach.From(two, 1), []int{1}) {
		t.Error("rising, each once")
	}
	// The places are those of the row, not of the names; a Cap's name calls nobody.
	body, _ := expr.Cap("c", tree.Rule("a"))
	odd := api.Grammar{Rules: []api.Def{{Name: "c", Body: tree.Rule("b")}, {Name: "a", Body: tree.Empty()}, {Name: "b", Body: body}}}
	if !same(reach.Calls(odd, 0), []int{2}) || !same(reach.Calls(odd, 2), []int{1}) || !same(reach.From(odd, 0), []int{0, 1, 2}) || reach.Self(odd, 0) {
		t.Error("names")
	}
}

// ways is who reaches whom, by marks that are closed, rule by rule.
func ways(g api.Grammar) (calls, by [][]bool) {
	n := len(g.Rules)
	for i := range n {
		calls, by = append(calls, make([]bool, n)), append(by, make([]bool, n))
		for _, node := range g.Rules[i].Body.Nodes {
			if node.Kind == api.Rule {
				calls[i][gram.Find(g, node.Text)] = true
			}
		}
		copy(by[i], calls[i])
	}
	for k := range n {
		for i := range n {
			for j := range n {
				by[i][j] = by[i][j] || by[i][k] && by[k][j]
			}
		}
	}
	return calls, by
}

func TestWays(t *testing.T) {
	s := sample.New(121)
	for range 1500 {
		var l []string
		n := 1 + s.Below(8)
		if s.OneIn(50) {
			n = 64
		}
		for range n {
			l = append(l, s.Word(s.Below(3), "abcdefghijklm"[:min(n, 13)]))
		}
		g := calling(l...)
		before := gram.Copy(g)
		calls, by := ways(g)
		var useless []int
		for i := range n {
			var called, from []int
			for j := range n {
				if calls[i][j] {
					called = append(called, j)
				}
				if i == j || by[i][j] {
					from = append(from, j)
				}
			}
			if !same(reach.Calls(g, i), called) || !same(reach.From(g, i), from) || reach.Self(g, i) != by[i][i] {
				t.Fatal(l, i, reach.Calls(g, i), reach.From(g, i), reach.Self(g, i))
			}
			if i > 0 && !by[0][i] {
				useless = append(useless, i)
			}
		}
		if !same(reach.Useless(g), useless) {
			t.Fatal(l, reach.Useless(g))
		}
		rounds(t, reach.Rounds(g), by)
		if !gram.Same(g, before) {
			t.Fatal("changed")
		}
	}
}

func rounds(t *testing.T, got [][]int, by [][]bool) {
	t.Helper()
	var want [][]int
	for i := range by {
		first := true
		part := []int{}
		for j := range by {
			if i == j || by[i][j] && by[j][i] {
				first = first && j >= i
				part = append(part, j)
			}
		}
		if first {
			want = append(want, part)
		}
	}
	if !reflect.DeepEqual(got, want) {
		t.Fatal(got, want)
	}
}

func TestWrong(t *testing.T) {
	g := calling("b", "a")
	for _, i := range []int{-1, 2, 1 << 40} {
		if len(reach.Calls(g, i)) != 0 || len(reach.From(g, i)) != 0 || reach.Self(g, i) {
			t.Error("a rule that is not there", i)
		}
	}
	twice := calling("a", "b")
	twice.Rules[1].Name = "a"
	odd := calling("a", "b")
	odd.Rules[1].Body = api.Tree{Nodes: []api.Node{{Kind: api.Not, Kids: []int{7}}}}
	for i, bad := range []api.Grammar{{}, {Rules: []api.Def{{Name: "a", Body: tree.Rule("b")}}}, twice, odd, {Rules: make([]api.Def, 65)}} {
		if len(reach.Calls(bad, 0)) != 0 || len(reach.From(bad, 0)) != 0 || reach.Self(bad, 0) || len(reach.Useless(bad)) != 0 || len(reach.Rounds(bad)) != 0 {
			t.Error("of a grammar that may not be", i)
		}
	}
}
