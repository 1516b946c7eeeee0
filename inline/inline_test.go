package inline_test

import (
	"strings"
	"testing"

	"bonsai/api"
	"bonsai/gram"
	"bonsai/inline"
	"bonsai/parse"
	"bonsai/path"
	"bonsai/print"
	"bonsai/reach"
	"bonsai/redex"
	"bonsai/sample"
	"bonsai/tree"
	"bonsai/well"
)

func read(t *testing.T, text string) api.Grammar {
	t.Helper()
	g, _, e := parse.Grammar(text)
	if e != api.OK || gram.May(g) != api.OK {
		t.Fatal(text, e)
	}
	return g
}

func this() redex.Pass {
	return redex.Pass{Number: api.Inline, Steps: inline.Steps, First: inline.First, Do: inline.Do}
}

// becomes asks what comes of a step.
func becomes(t *testing.T, from string, s api.Step, to string) {
	t.Helper()
	g := read(t, from)
	s.Pass = api.Inline
	out, e := inline.Do(g, s)
	if to == "" {
		if e != api.ErrStep || len(out.Rules) != 0 {
			t.Errorf("%s: %v: %q %v", from, s, print.Grammar(out), e)
		}
		return
	}
	if e != api.OK || !gram.Same(out, read(t, to)) {
		t.Errorf("%s: %v: %q %v", from, s, print.Grammar(out), e)
	}
	found := 0
	for _, step := range inline.Steps(g) {
		if redex.Same(step, s) {
			found++
		}
	}
	if found != 1 {
		t.Errorf("%s: %v stands %d times among the steps", from, s, found)
	}
}

func TestAgainstTheTable(t *testing.T) {
	s := sample.New(196)
	steps, tried := 0, 0
	for range 2500 {
		g := s.Grammar(1+s.Below(4), 1+s.Below(4))
		if s.OneIn(40) {
			g.Rules[0].Body = s.Broken(g.Rules[0].Body)
		}
		if fault := this().Fault(g, s); fault != "" {
			t.Fatal(fault)
		}
		if well.Check(g) == api.OK {
			tried++
		}
		steps += len(inline.Steps(g))
	}
	if tried < 1000 || steps < 100 {
		t.Fatal(tried, steps)
	}
}

func TestExamples(t *testing.T) {
	becomes(t, "a <- b \"x\" b b <- \"y\"", api.Step{Way: 1, Path: []int{0}}, "a <- \"y\" \"x\" b b <- \"y\"")
	becomes(t, "a <- b \"x\" b b <- \"y\"", api.Step{Way: 1, Path: []int{2}}, "a <- b \"x\" \"y\" b <- \"y\"")
	becomes(t, "a <- b \"x\" b b <- \"y\"", api.Step{Way: 1, Path: []int{1}}, "")
	becomes(t, "a <- b c b <- \"y\" \"z\" c <- \"\"", api.Step{Way: 1, Path: []int{0}}, "a <- \"y\" \"z\" c b <- \"y\" \"z\" c <- \"\"")
	becomes(t, "a <- b c b <- \"y\" \"z\" c <- \"\"", api.Step{Way: 1, Path: []int{1}}, "a <- b b <- \"y\" \"z\" c <- \"\"")
	becomes(t, "a <- b / c b <- \"y\" / \"z\" c <- \"\"", api.Step{Way: 1, Path: []int{0}}, "a <- \"y\" / \"z\" / c b <- \"y\" / \"z\" c <- \"\"")
	becomes(t, "a <- \"x\" b / \"\" b <- !c c <- \"x\" a d <- a", api.Step{Way: 1, Rule: 3}, "")
	becomes(t, "a <- \"x\" b / \"\" b <- !c c <- \"x\" a d <- e e <- a", api.Step{Way: 1, Rule: 3}, "a <- \"x\" b / \"\" b <- !c c <- \"x\" a d <- a e <- a")
	becomes(t, "a <- <n: !b?> b <- .", api.Step{Way: 1, Path: []int{0, 0, 0}}, "a <- <n: !.?> b <- .")
	if got := inline.Steps(read(t, "a <- \"x\" a / \"\"")); len(got) != 0 {
		t.Error(got)
	}
	becomes(t, "a <- \"x\" a / \"\"", api.Step{Way: 1, Path: []int{0, 1}}, "")
	becomes(t, "a <- b b <- .", api.Step{Way: 1, At: 1}, "")
	becomes(t, "a <- b b <- .", api.Step{Way: 2}, "")
	becomes(t, "a <- b b <- .", api.Step{}, "")
}

func TestTooLarge(t *testing.T) {
	// 3 nodes and n, and 201 in b; the call becomes 201 of them.
	for n, fits := range map[int]bool{500: true, 619: true, 620: true, 621: false, 622: false, 700: false} {
		g := read(t, "a <- !b "+strings.Repeat("\"y\" ", n)+"b <- "+strings.Repeat("\"x\" ", 200))
		s := api.Step{Pass: api.Inline, Way: 1, Path: []int{0, 0}}
		out, e := inline.Do(g, s)
		if (e == api.OK) != fits || (len(inline.Steps(g)) == 1) != fits || !fits && e != api.ErrStep || fits && gram.Nodes(out) != gram.Nodes(g)+200 {
			t.Error(n, e, gram.Nodes(g), gram.Nodes(out), len(inline.Steps(g)))
		}
	}
	long := "a <- b b b b b <- \"" + strings.Repeat("\\x00", 250) + "\" \"" + strings.Repeat("\\x00", 250) + "\" \"" + strings.Repeat("\\x00", 250) + "\""
	g := read(t, long)
	done := 0
	for s, ok := inline.First(g); ok; s, ok = inline.First(g) {
		g, _ = inline.Do(g, s)
		done++
	}
	if done != 1 {
		t.Error("a text that is too long", done)
	}
	deep := "a <- " + strings.Repeat("!", 20) + "b b <- " + strings.Repeat("&", 10)
	if s, ok := inline.First(read(t, deep+"&\"x\"")); !ok || len(s.Path) != 20 {
		t.Error("as deep as may be", ok)
	}
	if _, ok := inline.First(read(t, deep+"&&\"x\"")); ok {
		t.Error("too deep")
	}
}

func TestCalls(t *testing.T) {
	s := sample.New(190)
	for range 500 {
		g := s.Grammar(1+s.Below(4), 1+s.Below(4))
		steps := inline.Steps(g)
		left := len(steps)
		for i := -1; i <= len(g.Rules); i++ {
			got := inline.Calls(g, i)
			left -= len(got)
			k := 0
			for _, step := range steps {
				x, _ := path.Find(g, path.Place{Rule: step.Rule, Path: step.Path})
				if i < 0 || i >= len(g.Rules) || tree.Root(x).Text != g.Rules[i].Name {
					continue
				}
				if k >= len(got) || !redex.Same(got[k], step) {
					t.Fatal("Calls", i, got)
				}
				k++
			}
			if k != len(got) {
				t.Fatal("Calls", i, got)
			}
		}
		if left != 0 {
			t.Fatal("each step is of one rule's calls")
		}
	}
}

func TestToTheEnd(t *testing.T) {
	s := sample.New(191)
	for range 300 {
		g := s.Grammar(1+s.Below(5), 1+s.Below(3))
		for n := 0; n < 60; n++ {
			step, ok := inline.First(g)
			if !ok {
				break
			}
			next, e := inline.Do(g, step)
			if e != api.OK || gram.Nodes(next) > gram.Nodes(g)-1+1024 {
				t.Fatal(e)
			}
			for i := range g.Rules {
				if reach.Self(next, i) && !reach.Self(g, i) {
					t.Fatal("a rule comes to itself that did not")
				}
				if i != step.Rule && !tree.Same(next.Rules[i].Body, g.Rules[i].Body) {
					t.Fatal("another one's body")
				}
			}
			g = next
		}
	}
}
