package prune_test

import (
	"reflect"
	"slices"
	"testing"

	"bonsai/api"
	"bonsai/gram"
	"bonsai/parse"
	"bonsai/print"
	"bonsai/prune"
	"bonsai/reach"
	"bonsai/redex"
	"bonsai/sample"
	"bonsai/well"
)

func read(t *testing.T, text string) api.Grammar {
	t.Helper()
	g, _, e := parse.Grammar(text)
	if e != api.OK || gram.May(g) != api.OK {
		t.Fatal(text, e)
	}
	return g
}

func this() redex.Pass {
	return redex.Pass{Number: api.Prune, Steps: prune.Steps, First: prune.First, Do: prune.Do}
}

// becomes asks what comes of a step.
func becomes(t *testing.T, from string, s api.Step, to string) {
	t.Helper()
	g := read(t, from)
	s.Pass = api.Prune
	out, e := prune.Do(g, s)
	if to == "" {
		if e != api.ErrStep || len(out.Rules) != 0 {
			t.Errorf("%s: %v: %q %v", from, s, print.Grammar(out), e)
		}
		return
	}
	if e != api.OK || !gram.Same(out, read(t, to)) {
		t.Errorf("%s: %v: %q %v", from, s, print.Grammar(out), e)
	}
	found := 0
	for _, step := range prune.Steps(g) {
		if redex.Same(step, s) {
			found++
		}
	}
	if found != 1 {
		t.Errorf("%s: %v stands %d times among the steps", from, s, found)
	}
}

func TestAgainstTheTable(t *testing.T) {
	s := sample.New(195)
	steps, tried := 0, 0
	for range 2500 {
		g := s.Grammar(1+s.Below(4), 1+s.Below(4))
		if s.OneIn(40) {
			g.Rules[0].Body = s.Broken(g.Rules[0].Body)
		}
		if fault := this().Fault(g, s); fault != "" {
			t.Fatal(fault)
		}
		if well.Check(g) == api.OK {
			tried++
		}
		steps += len(prune.Steps(g))
	}
	if tried < 1000 || steps < 100 {
		t.Fatal(tried, steps)
	}
}

func TestExamples(t *testing.T) {
	becomes(t, "a <- \"x\" b <- \"y\" c c <- \"z\" b / \"\"", api.Step{Way: 1, Rule: 1}, "a <- \"x\"")
	becomes(t, "a <- \"x\" b <- \"y\" c c <- \"z\" b / \"\"", api.Step{Way: 1, Rule: 2}, "")
	becomes(t, "a <- b b <- \"\"", api.Step{Way: 1, Rule: 1}, "")
	becomes(t, "a <- d b <- a c <- b d <- . e <- .", api.Step{Way: 1, Rule: 1}, "a <- d d <- .")
	becomes(t, "a <- . b <- .", api.Step{Way: 1, Rule: 1, At: 1}, "")
	becomes(t, "a <- . b <- .", api.Step{Way: 1, Rule: 1, Path: []int{0}}, "")
	becomes(t, "a <- . b <- .", api.Step{Way: 2, Rule: 1}, "")
	becomes(t, "a <- . b <- .", api.Step{Rule: 1}, "")
	becomes(t, "a <- . b <- .", api.Step{Way: 1}, "")
	if s, ok := prune.First(read(t, "a <- . b <- .")); !ok || len(s.Path) != 0 {
		t.Error(s, ok)
	}
}

func TestKeep(t *testing.T) {
	g := read(t, "a <- b b <- \"x\" c <- a")
	for i, row := range []struct {
		rules []int
		want  string
	}{
		{[]int{0, 1}, "a <- b b <- \"x\""}, {[]int{1, 0}, "a <- b b <- \"x\""}, {[]int{0}, ""}, {[]int{2, 0, 1}, "a <- b b <- \"x\" c <- a"}, {[]int{1}, "b <- \"x\""}, {[]int{2, 1}, ""}, {nil, ""}, {[]int{}, ""}, {[]int{1, 1}, ""}, {[]int{-1, 1}, ""}, {[]int{1, 3}, ""}, {[]int{1, 1 << 40}, ""}, {[]int{0, 1, 0}, ""},
	} {
		out, ok := prune.Keep(g, row.rules)
		if ok != (row.want != "") || ok && !gram.Same(out, read(t, row.want)) || !ok && len(out.Rules) != 0 {
			t.Error(i, print.Grammar(out), ok)
		}
	}
	for _, bad := range []api.Grammar{{}, {Rules: []api.Def{g.Rules[1], g.Rules[1]}}, {Rules: []api.Def{g.Rules[1], {Name: "q", Body: api.Tree{}}}}} {
		if out, ok := prune.Keep(bad, []int{0}); ok || len(out.Rules) != 0 {
			t.Error("of one that may not be")
		}
	}
	if out, ok := prune.Keep(read(t, "a <- b b <- b c <- ."), []int{1}); !ok || len(out.Rules) != 1 {
		t.Error("of one that is not well-formed, and may be")
	}
	s := sample.New(250)
	for range 1500 {
		g := s.Grammar(1+s.Below(5), 1+s.Below(3))
		if gram.May(g) != api.OK {
			continue
		}
		var rules []int
		marked := map[int]int{}
		for i := range g.Rules {
			if s.OneIn(2) {
				rules = append(rules, i)
				marked[i]++
			}
		}
		closed := len(rules) > 0
		for _, i := range rules {
			for _, j := range reach.Calls(g, i) {
				closed = closed && marked[j] > 0
			}
		}
		for i := range rules {
			j := s.Below(i + 1)
			rules[i], rules[j] = rules[j], rules[i]
		}
		out, ok := prune.Keep(g, rules)
		if ok != closed {
			t.Fatal("Keep", rules, ok)
		}
		if !ok {
			continue
		}
		slices.Sort(rules)
		for k, i := range rules {
			if out.Rules[k].Name != g.Rules[i].Name || !reflect.DeepEqual(out.Rules[k].Body, gram.Copy(g).Rules[i].Body) || len(reach.From(out, k)) != len(reach.From(g, i)) {
				t.Fatal("kept", print.Grammar(out))
			}
		}
		if len(out.Rules) != len(rules) || gram.May(out) != api.OK || well.Check(g) == api.OK && well.Check(out) != api.OK {
			t.Fatal("kept", print.Grammar(out))
		}
		before := gram.Copy(g)
		for i := range out.Rules {
			out.Rules[i].Body.Nodes[0] = api.Node{Kind: 99}
		}
		if !gram.Same(before, g) {
			t.Fatal("memory is shared")
		}
	}
}

func TestRest(t *testing.T) {
	s := sample.New(251)
	for range 500 {
		g := s.Grammar(1+s.Below(5), 1+s.Below(3))
		step, ok := prune.First(g)
		if well.Check(g) == api.OK && ok != (len(reach.Useless(g)) > 0) {
			t.Fatal("there is one just if the start does not reach all")
		}
		if !ok {
			continue
		}
		out, _ := prune.Do(g, step)
		if len(prune.Steps(out)) != 0 || len(reach.Useless(out)) != 0 || len(out.Rules) != len(reach.From(g, 0)) {
			t.Fatal("all that is needed", print.Grammar(out))
		}
	}
}
