package pred_test

import (
	"testing"

	"bonsai/api"
	"bonsai/gram"
	"bonsai/parse"
	"bonsai/pred"
	"bonsai/print"
	"bonsai/redex"
	"bonsai/sample"
	"bonsai/well"
)

func read(t *testing.T, text string) api.Grammar {
	t.Helper()
	g, _, e := parse.Grammar(text)
	if e != api.OK || gram.May(g) != api.OK {
		t.Fatal(text, e)
	}
	return g
}

func this() redex.Pass {
	return redex.Pass{Number: api.Pred, Steps: pred.Steps, First: pred.First, Do: pred.Do}
}

// becomes asks what comes of a step.
func becomes(t *testing.T, from string, s api.Step, to string) {
	t.Helper()
	g := read(t, from)
	s.Pass = api.Pred
	out, e := pred.Do(g, s)
	if to == "" {
		if e != api.ErrStep || len(out.Rules) != 0 {
			t.Errorf("%s: %v: %q %v", from, s, print.Grammar(out), e)
		}
		return
	}
	if e != api.OK || !gram.Same(out, read(t, to)) {
		t.Errorf("%s: %v: %q %v", from, s, print.Grammar(out), e)
	}
	found := 0
	for _, step := range pred.Steps(g) {
		if redex.Same(step, s) {
			found++
		}
	}
	if found != 1 {
		t.Errorf("%s: %v stands %d times among the steps", from, s, found)
	}
}

func TestAgainstTheTable(t *testing.T) {
	s := sample.New(194)
	steps, tried := 0, 0
	for range 2500 {
		g := s.Grammar(1+s.Below(4), 1+s.Below(4))
		if s.OneIn(40) {
			g.Rules[0].Body = s.Broken(g.Rules[0].Body)
		}
		if fault := this().Fault(g, s); fault != "" {
			t.Fatal(fault)
		}
		if well.Check(g) == api.OK {
			tried++
		}
		steps += len(pred.Steps(g))
	}
	if tried < 1000 || steps < 100 {
		t.Fatal(tried, steps)
	}
}

func TestExamples(t *testing.T) {
	becomes(t, "a <- !!\"x\"", api.Step{Way: 1}, "a <- &\"x\"")
	becomes(t, "a <- &&\"x\"", api.Step{Way: 2}, "a <- &\"x\"")
	becomes(t, "a <- !&\"x\"", api.Step{Way: 3}, "a <- !\"x\"")
	becomes(t, "a <- &!\"x\"", api.Step{Way: 4}, "a <- !\"x\"")
	becomes(t, "a <- &!\"x\"", api.Step{Way: 3}, "")
	becomes(t, "a <- !!\"x\"", api.Step{Way: 1, At: 1}, "")
	becomes(t, "a <- !!\"x\"", api.Step{Way: 2}, "")
	becomes(t, "a <- . !!(\"x\" / \"y\")*", api.Step{Way: 1, Path: []int{1}}, "a <- . &(\"x\" / \"y\")*")
	becomes(t, "a <- &\"x\"? \"y\"", api.Step{Way: 5, Path: []int{0}}, "a <- \"y\"")
	becomes(t, "a <- ![] \"y\"", api.Step{Way: 5, Path: []int{0}}, "a <- \"y\"")
	becomes(t, "a <- !b \"y\" b <- \"x\" b", api.Step{Way: 5, Path: []int{0}}, "a <- \"y\" b <- \"x\" b")
	becomes(t, "a <- &\"x\" \"y\"", api.Step{Way: 5, Path: []int{0}}, "")
	becomes(t, "a <- &[]", api.Step{Way: 6}, "a <- []")
	becomes(t, "a <- !(\"x\"?)", api.Step{Way: 6}, "a <- []")
	becomes(t, "a <- !\"x\"", api.Step{Way: 6}, "")
	becomes(t, "a <- &<n: \"x\">", api.Step{Way: 7}, "a <- &\"x\"")
	becomes(t, "a <- !<n: \"x\" / \"y\">", api.Step{Way: 7}, "a <- !(\"x\" / \"y\")")
	becomes(t, "a <- &(<n: \"x\"> \"y\")", api.Step{Way: 7}, "")
	becomes(t, "a <- &\"x\" \"x\" \"y\"", api.Step{Way: 8}, "a <- \"x\" \"y\"")
	becomes(t, "a <- . &(\"x\" / \"y\")? (\"x\" / \"y\")?", api.Step{Way: 8, At: 1}, "a <- . (\"x\" / \"y\")?")
	becomes(t, "a <- !\"x\" \"x\" \"y\"", api.Step{Way: 8}, "")
	becomes(t, "a <- &\"x\" \"y\" \"x\"", api.Step{Way: 8}, "")
	becomes(t, "a <- ![a] \"b\" / \"c\"", api.Step{Way: 9, Path: []int{0}}, "a <- \"b\" / \"c\"")
	becomes(t, "a <- ![b] \"b\" / \"c\"", api.Step{Way: 9, Path: []int{0}}, "")
	becomes(t, "a <- ![a] \"b\"?", api.Step{Way: 9}, "")
	becomes(t, "a <- ![a] (\"b\" / b) b <- \"c\"", api.Step{Way: 9}, "a <- \"b\" / b b <- \"c\"")
	becomes(t, "a <- !\"a\" \"b\"", api.Step{Way: 9}, "")
	becomes(t, "a <- &[a-c] \"b\"", api.Step{Way: 10}, "a <- \"b\"")
	becomes(t, "a <- &[a-c] [b-d]", api.Step{Way: 10}, "")
	becomes(t, "a <- &[a-c] \"b\"*", api.Step{Way: 10}, "")
	becomes(t, "a <- . &[a-c] \"bx\" .", api.Step{Way: 10, At: 1}, "a <- . \"bx\" .")
	becomes(t, "a <- &[a-c] \"b\"", api.Step{Way: 11}, "")
	becomes(t, "a <- . &[a-c]", api.Step{Way: 10, At: 1}, "")
	becomes(t, "a <- &\"\" \"x\" a / \"y\"", api.Step{Way: 5, Path: []int{0, 0}}, "a <- \"x\" a / \"y\"")
}

func TestCount(t *testing.T) {
	for text, want := range map[string]int{"a <- \"x\"": 0, "a <- !&\"x\" !. b <- (&a)?": 4, "a <- a !a": 1} {
		if got := pred.Count(read(t, text)); got != want {
			t.Error(text, got)
		}
	}
	if pred.Count(api.Grammar{Rules: []api.Def{{Name: "a", Body: sample.Deep(40, api.Node{Kind: api.And})}}}) != 0 || pred.Count(api.Grammar{}) != 0 {
		t.Error("of one that may not be")
	}
	s := sample.New(220)
	for range 1000 {
		g := s.Grammar(1+s.Below(4), 1+s.Below(4))
		count := 0
		for _, d := range g.Rules {
			for _, n := range d.Body.Nodes {
				if n.Kind == api.And || n.Kind == api.Not {
					count++
				}
			}
		}
		if gram.May(g) != api.OK {
			count = 0
		}
		if pred.Count(g) != count {
			t.Fatal("Count", print.Grammar(g))
		}
		for n := 0; ; n++ {
			step, ok := pred.First(g)
			if !ok {
				break
			}
			next, _ := pred.Do(g, step)
			if more := pred.Count(next) - pred.Count(g); more > 0 || more == 0 && gram.Nodes(next) >= gram.Nodes(g) || n > 2048 {
				t.Fatal("fewer", print.Grammar(g), print.Grammar(next))
			}
			g = next
		}
	}
}
