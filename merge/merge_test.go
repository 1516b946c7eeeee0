package merge_test

import (
	"testing"

	"bonsai/api"
	"bonsai/expr"
	"bonsai/gram"
	"bonsai/merge"
	"bonsai/parse"
	"bonsai/print"
	"bonsai/redex"
	"bonsai/sample"
	"bonsai/set"
	"bonsai/span"
	"bonsai/table"
	"bonsai/tree"
	"bonsai/well"
)

func read(t *testing.T, text string) api.Grammar {
	t.Helper()
	g, _, e := parse.Grammar(text)
	if e != api.OK || gram.May(g) != api.OK {
		t.Fatal(text, e)
	}
	return g
}

func this() redex.Pass {
	return redex.Pass{Number: api.Merge, Steps: merge.Steps, First: merge.First, Do: merge.Do}
}

// becomes asks what comes of a step.
func becomes(t *testing.T, from string, s api.Step, to string) {
	t.Helper()
	g := read(t, from)
	s.Pass = api.Merge
	out, e := merge.Do(g, s)
	if to == "" {
		if e != api.ErrStep || len(out.Rules) != 0 {
			t.Errorf("%s: %v: %q %v", from, s, print.Grammar(out), e)
		}
		return
	}
	if e != api.OK || !gram.Same(out, read(t, to)) {
		t.Errorf("%s: %v: %q %v", from, s, print.Grammar(out), e)
	}
	found := 0
	for _, step := range merge.Steps(g) {
		if redex.Same(step, s) {
			found++
		}
	}
	if found != 1 {
		t.Errorf("%s: %v stands %d times among the steps", from, s, found)
	}
}

func TestAgainstTheTable(t *testing.T) {
	s := sample.New(195)
	steps, tried := 0, 0
	for range 2500 {
		g := s.Grammar(1+s.Below(4), 1+s.Below(4))
		if s.OneIn(40) {
			g.Rules[0].Body = s.Broken(g.Rules[0].Body)
		}
		if fault := this().Fault(g, s); fault != "" {
			t.Fatal(fault)
		}
		if well.Check(g) == api.OK {
			tried++
		}
		steps += len(merge.Steps(g))
	}
	if tried < 1000 || steps < 100 {
		t.Fatal(tried, steps)
	}
}

func TestExamples(t *testing.T) {
	becomes(t, "a <- [a] / \"b\" / \"c\" x x <- .", api.Step{Way: 1}, "a <- [ab] / \"c\" x x <- .")
	if got := merge.Steps(read(t, "a <- [a] / \"b\" / \"c\" x x <- .")); len(got) != 1 {
		t.Error(got)
	}
	becomes(t, "a <- \"x\" / [a-c] / \"d\"", api.Step{Way: 1, At: 1}, "a <- \"x\" / [a-d]")
	becomes(t, "a <- \"x\" / \"y\"", api.Step{Way: 1}, "a <- [xy]")
	becomes(t, "a <- \"x\" / \"yz\"", api.Step{Way: 1}, "")
	becomes(t, "a <- ![b] [a-c] \"x\"", api.Step{Way: 2}, "a <- [ac] \"x\"")
	becomes(t, "a <- &[b-x] [a-c]", api.Step{Way: 3}, "a <- [bc]")
	becomes(t, "a <- &[b-x] [a-c]", api.Step{Way: 2}, "")
	becomes(t, "a <- ![b] \"a\"", api.Step{Way: 2}, "")
	becomes(t, "a <- !\"b\" [a-c]", api.Step{Way: 2}, "")
	becomes(t, "a <- [a] [b]", api.Step{Way: 1}, "")
	becomes(t, "a <- . ![b] [a-c]", api.Step{Way: 2, At: 1}, "a <- . [ac]")
	becomes(t, "a <- ![b] [b]", api.Step{Way: 2}, "a <- []")
	becomes(t, "a <- !(\"p\" / \"q\")", api.Step{Way: 1, Path: []int{0}}, "a <- ![pq]")
	becomes(t, "a <- [a] / [b]", api.Step{Way: 0}, "")
	becomes(t, "a <- [a] / [b]", api.Step{Way: 4}, "")
	becomes(t, "a <- [a] / [b]", api.Step{Way: 1, At: 1}, "")
}

func TestTwo(t *testing.T) {
	set1, set2 := tree.Set(set.Range('a', 'c')), tree.Set(set.Of("cx"))
	not, _ := expr.Not(set2)
	and, _ := expr.And(set2)
	notText, _ := expr.Not(tree.Text("c"))
	star, _ := expr.Rep(set1, 0, -1)
	bad := api.Tree{Nodes: []api.Node{{}, {Kind: api.Set}}, Root: 1}
	for i, row := range []struct {
		way  uint8
		a, b api.Tree
		want string
		ok   bool
	}{
		{1, set1, tree.Text("d"), "abcd", true}, {1, tree.Text("d"), set1, "abcd", true}, {1, set1, set2, "abcx", true}, {1, tree.Text("p"), tree.Text("q"), "pq", true}, {1, tree.Text("ab"), set1, "", false}, {1, set1, tree.Empty(), "", false}, {1, set1, star, "", false}, {1, not, set1, "", false}, {1, set1, not, "", false}, {1, tree.Set(api.Bytes{}), tree.Set(api.Bytes{}), "", true},
		{2, not, set1, "ab", true}, {2, and, set1, "", false}, {2, not, tree.Text("a"), "", false}, {2, notText, set1, "", false}, {2, set1, set2, "", false}, {2, not, not, "", false}, {2, not, star, "", false}, {2, not, tree.Set(set.Of("c")), "", true},
		{3, and, set1, "c", true}, {3, not, set1, "", false}, {3, and, tree.Text("c"), "", false}, {3, and, star, "", false}, {0, set1, set1, "", false}, {4, set1, set1, "", false}, {255, set1, set1, "", false},
		{1, bad, set1, "", false}, {1, set1, bad, "", false}, {2, not, bad, "", false}, {2, bad, set1, "", false}, {3, api.Tree{}, set1, "", false}, {3, and, api.Tree{}, "", false},
	} {
		if got, ok := merge.Two(row.way, row.a, row.b); ok != row.ok || got != set.Of(row.want) {
			t.Error(i, set.List(got), ok)
		}
	}
	for i, row := range []struct {
		t    api.Tree
		want string
		ok   bool
	}{{set1, "abc", true}, {tree.Text("\xff"), "\xff", true}, {tree.Text("ab"), "", false}, {tree.Text(""), "", false}, {tree.Empty(), "", false}, {tree.Rule("a"), "", false}, {not, "", false}, {star, "", false}, {bad, "", false}, {api.Tree{}, "", false}, {tree.Set(api.Bytes{}), "", true}} {
		if got, ok := merge.Bytes(row.t); ok != row.ok || got != set.Of(row.want) {
			t.Error(i, set.List(got), ok)
		}
	}
}

func TestMerged(t *testing.T) {
	s := sample.New(230)
	g := read(t, "a <- .")
	told := 0
	for range 4000 {
		a, b := s.Tree(2, nil), s.Tree(1, nil)
		for way := uint8(1); way <= 3; way++ {
			bytes, ok := merge.Two(way, a, b)
			if !ok {
				continue
			}
			told++
			both, _ := expr.Seq([]api.Tree{a, b})
			if way == 1 {
				both, _ = expr.Choice([]api.Tree{a, b})
			}
			input := s.Input(4)
			tab, _ := table.New(g, input)
			for at := range len(input) + 1 {
				x, e := tab.Expr(tree.Set(bytes), at)
				y, f := tab.Expr(both, at)
				if e != f || !span.Same(x, y) {
					t.Fatal(way, print.Tree(both))
				}
			}
		}
		g := s.Grammar(2, 3)
		before := gram.Nodes(g)
		for step, ok := merge.First(g); ok; step, ok = merge.First(g) {
			g, _ = merge.Do(g, step)
			if gram.Nodes(g) >= before {
				t.Fatal("fewer nodes")
			}
			before = gram.Nodes(g)
		}
	}
	if told < 40 {
		t.Fatal(told)
	}
}

func TestTooLarge(t *testing.T) {
	begin, grown := "![ -~] .", "[\\x00-\\x1f\\x7f-\\xff]"
	more := len(grown) - len(begin)
	s := api.Step{Way: 2}
	becomes(t, redex.Filled(begin, api.MaxBytes-more), s, redex.Filled(grown, api.MaxBytes))
	becomes(t, redex.Filled(begin, api.MaxBytes-more+1), s, "")
	if got := merge.Steps(read(t, redex.Filled(begin, api.MaxBytes))); len(got) != 0 {
		t.Error(got)
	}
	if got, ok := merge.First(read(t, redex.Filled(begin, api.MaxBytes))); ok {
		t.Error(got)
	}
}
