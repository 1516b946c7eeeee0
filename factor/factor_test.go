package factor_test

import (
	"testing"

	"bonsai/api"
	"bonsai/expr"
	"bonsai/factor"
	"bonsai/gram"
	"bonsai/parse"
	"bonsai/print"
	"bonsai/redex"
	"bonsai/sample"
	"bonsai/span"
	"bonsai/table"
	"bonsai/tree"
	"bonsai/well"
)

func read(t *testing.T, text string) api.Grammar {
	t.Helper()
	g, _, e := parse.Grammar(text)
	if e != api.OK || gram.May(g) != api.OK {
		t.Fatal(text, e)
	}
	return g
}

func this() redex.Pass {
	return redex.Pass{Number: api.Factor, Steps: factor.Steps, First: factor.First, Do: factor.Do}
}

// becomes asks what comes of a step.
func becomes(t *testing.T, from string, s api.Step, to string) {
	t.Helper()
	g := read(t, from)
	s.Pass = api.Factor
	out, e := factor.Do(g, s)
	if to == "" {
		if e != api.ErrStep || len(out.Rules) != 0 {
			t.Errorf("%s: %v: %q %v", from, s, print.Grammar(out), e)
		}
		return
	}
	if e != api.OK || !gram.Same(out, read(t, to)) {
		t.Errorf("%s: %v: %q %v", from, s, print.Grammar(out), e)
	}
	found := 0
	for _, step := range factor.Steps(g) {
		if redex.Same(step, s) {
			found++
		}
	}
	if found != 1 {
		t.Errorf("%s: %v stands %d times among the steps", from, s, found)
	}
}

func TestAgainstTheTable(t *testing.T) {
	s := sample.New(196)
	steps, tried := 0, 0
	for range 2500 {
		g := s.Grammar(1+s.Below(4), 1+s.Below(4))
		if s.OneIn(40) {
			g.Rules[0].Body = s.Broken(g.Rules[0].Body)
		}
		if fault := this().Fault(g, s); fault != "" {
			t.Fatal(fault)
		}
		if well.Check(g) == api.OK {
			tried++
		}
		steps += len(factor.Steps(g))
	}
	if tried < 1000 || steps < 100 {
		t.Fatal(tried, steps)
	}
}

func TestExamples(t *testing.T) {
	becomes(t, "a <- \"x\" \"b\" / \"x\" \"c\"", api.Step{Way: 2}, "a <- \"x\" (\"b\" / \"c\")")
	becomes(t, "a <- \"x\" \"b\" / \"x\" \"c\"", api.Step{Way: 3}, "")
	becomes(t, "a <- \"ab\" / \"ac\" \"d\" / .", api.Step{Way: 3}, "a <- \"a\" (\"b\" / \"c\" \"d\") / .")
	becomes(t, "a <- \"ab\" / \"ac\" \"d\" / .", api.Step{Way: 3, At: 1}, "")
	becomes(t, "a <- \"p\" / . / .", api.Step{Way: 1, At: 1}, "a <- \"p\" / .")
	becomes(t, "a <- \"p\" / .* .", api.Step{Way: 1, At: 1}, "")
	becomes(t, "a <- \"a\" / \"a\" \"b\"", api.Step{Way: 2}, "a <- \"a\" (\"\" / \"b\")")
	becomes(t, "a <- \"a\" / \"a\" (\"b\" / \"c\")", api.Step{Way: 2}, "a <- \"a\" (\"\" / \"b\" / \"c\")")
	becomes(t, "a <- (\"x\" / \"x\") \"y\"", api.Step{Way: 1, Path: []int{0}}, "a <- \"x\" \"y\"")
	becomes(t, "a <- (\"x\" / \"x\" \"z\") \"y\"", api.Step{Way: 2, Path: []int{0}}, "a <- \"x\" (\"\" / \"z\") \"y\"")
	becomes(t, "a <- \"\" / \"\"", api.Step{Way: 1}, "a <- \"\"")
	becomes(t, "a <- \"x\" \"x\"", api.Step{Way: 1}, "")
	becomes(t, "a <- .", api.Step{Way: 1}, "")
}

func ex(t *testing.T, text string) api.Tree {
	t.Helper()
	x, _, e := parse.Expr(text)
	if e != api.OK {
		t.Fatal(text, e)
	}
	return x
}

func TestCommon(t *testing.T) {
	for _, row := range []struct {
		a, b string
		way  uint8
		want string
	}{
		{"\"x\" b", "\"x\" c", 2, "\"x\" (b / c)"}, {"\"ab\"", "\"ac\" d", 3, "\"a\" (\"b\" / \"c\" d)"}, {"\"a\"", "\"ab\"", 3, "\"a\" (\"\" / \"b\")"}, {"a", "a", 1, "a"}, {"a", "a b", 2, "a (\"\" / b)"}, {"\"x\"", "[x]", 0, ""},
		{"\"\"", "\"\"", 1, "\"\""}, {"\"\"", "a", 0, ""}, {"a", "b", 0, ""}, {"\"ab\" c", "\"ab\" d", 2, "\"ab\" (c / d)"}, {"\"abc\" c", "\"abd\"", 3, "\"ab\" (\"c\" c / \"d\")"}, {"\"ab\" c d", "\"a\"", 3, "\"a\" (\"b\" c d / \"\")"}, {"\"ba\"", "\"ca\"", 0, ""},
		{"a b / c", "a b / c", 1, "a b / c"}, {"a b / c", "a b / d", 0, ""}, {"(a / b) c", "a / b", 2, "(a / b) (c / \"\")"}, {"a (b / c)", "a (d / e)", 2, "a (b / c / d / e)"}, {"a*", "a* a", 2, "a* (\"\" / a)"}, {"a* b", "a+ b", 0, ""}, {"!a \"x\"", "!a \"y\"", 2, "!a (\"x\" / \"y\")"}, {"<n: \"x\">", "<m: \"x\">", 0, ""},
	} {
		way, one := factor.Common(ex(t, row.a), ex(t, row.b))
		turned, other := factor.Common(ex(t, row.b), ex(t, row.a))
		if way != row.way || turned != way || way > 0 && !tree.Same(one, ex(t, row.want)) || way == 0 && (len(one.Nodes)+len(other.Nodes) != 0 || one.Root != 0) {
			t.Error(row, way, print.Tree(one))
		}
	}
	// They are made normal first.
	nested, _ := tree.Of(api.Node{Kind: api.Seq}, []api.Tree{tree.Empty(), ex(t, "a b")})
	if way, one := factor.Common(nested, ex(t, "a c")); way != 2 || !tree.Same(one, ex(t, "a (b / c)")) {
		t.Error(way, print.Tree(one))
	}
	if way, one := factor.Common(nested, ex(t, "a b")); way != 1 || !tree.Same(one, ex(t, "a b")) {
		t.Error(way, print.Tree(one))
	}
	for _, bad := range []api.Tree{{}, tree.Text(""), {Nodes: []api.Node{{}, {}}, Root: 1}} {
		one, x := factor.Common(bad, tree.Empty())
		two, y := factor.Common(tree.Empty(), bad)
		three, z := factor.Common(bad, bad)
		if one+two+three != 0 || len(x.Nodes)+len(y.Nodes)+len(z.Nodes) != 0 {
			t.Error(bad)
		}
	}
}

func TestInCommon(t *testing.T) {
	s := sample.New(210)
	g := read(t, "a <- \"ab\" b <- \"x\" / \"\"")
	var told [4]int
	for range 6000 {
		a, b := s.Tree(1+s.Below(3), sample.Names(2)), s.Tree(1+s.Below(3), sample.Names(2))
		way, one := factor.Common(a, b)
		turned, _ := factor.Common(b, a)
		told[way]++
		if way != turned {
			t.Fatal("turned about", print.Tree(a), print.Tree(b))
		}
		if way == 0 {
			continue
		}
		input := s.Input(5)
		tab, _ := table.New(g, input)
		both, _ := expr.Choice([]api.Tree{a, b})
		for at := range len(input) + 1 {
			x, e := tab.Expr(one, at)
			y, f := tab.Expr(both, at)
			if e != f || !span.Same(x, y) {
				t.Fatal("come to the same", print.Tree(a), print.Tree(b), print.Tree(one))
			}
		}
	}
	if told[1] < 25 || told[2] < 25 || told[3] < 25 {
		t.Fatal(told)
	}
}

func TestTooLarge(t *testing.T) {
	begin, grown := "(\"ab\" / \"ac\")", "\"a\" (\"b\" / \"c\")"
	more := len(grown) - len(begin)
	s := api.Step{Way: 3, Path: []int{0}}
	becomes(t, redex.Filled(begin, api.MaxBytes-more), s, redex.Filled(grown, api.MaxBytes))
	becomes(t, redex.Filled(begin, api.MaxBytes-more+1), s, "")
	if got := factor.Steps(read(t, redex.Filled(begin, api.MaxBytes))); len(got) != 0 {
		t.Error(got)
	}
	if got, ok := factor.First(read(t, redex.Filled(begin, api.MaxBytes))); ok {
		t.Error(got)
	}
}
