package dead_test

import (
	"testing"

	"bonsai/api"
	"bonsai/dead"
	"bonsai/flow"
	"bonsai/gram"
	"bonsai/parse"
	"bonsai/print"
	"bonsai/redex"
	"bonsai/sample"
	"bonsai/well"
)

func read(t *testing.T, text string) api.Grammar {
	t.Helper()
	g, _, e := parse.Grammar(text)
	if e != api.OK || gram.May(g) != api.OK {
		t.Fatal(text, e)
	}
	return g
}

func this() redex.Pass {
	return redex.Pass{Number: api.Dead, Steps: dead.Steps, First: dead.First, Do: dead.Do}
}

// becomes asks what comes of a step.
func becomes(t *testing.T, from string, s api.Step, to string) {
	t.Helper()
	g := read(t, from)
	s.Pass = api.Dead
	out, e := dead.Do(g, s)
	if to == "" {
		if e != api.ErrStep || len(out.Rules) != 0 {
			t.Errorf("%s: %v: %q %v", from, s, print.Grammar(out), e)
		}
		return
	}
	if e != api.OK || !gram.Same(out, read(t, to)) {
		t.Errorf("%s: %v: %q %v", from, s, print.Grammar(out), e)
	}
	found := 0
	for _, step := range dead.Steps(g) {
		if redex.Same(step, s) {
			found++
		}
	}
	if found != 1 {
		t.Errorf("%s: %v stands %d times among the steps", from, s, found)
	}
}

func TestAgainstTheTable(t *testing.T) {
	s := sample.New(194)
	steps, tried := 0, 0
	for range 2500 {
		g := s.Grammar(1+s.Below(4), 1+s.Below(4))
		if s.OneIn(40) {
			g.Rules[0].Body = s.Broken(g.Rules[0].Body)
		}
		if fault := this().Fault(g, s); fault != "" {
			t.Fatal(fault)
		}
		if well.Check(g) == api.OK {
			tried++
		}
		steps += len(dead.Steps(g))
	}
	if tried < 1000 || steps < 100 {
		t.Fatal(tried, steps)
	}
}

func TestExamples(t *testing.T) {
	becomes(t, "a <- \"x\"* / \"y\" / \"z\"", api.Step{Way: 1}, "a <- \"x\"*")
	becomes(t, "a <- \"x\"* / \"y\" / \"z\"", api.Step{Way: 1, At: 1}, "")
	becomes(t, "a <- \"z\" / \"x\"*", api.Step{Way: 1, At: 1}, "")
	becomes(t, "a <- \"z\" / \"x\"? / \"y\"", api.Step{Way: 1, At: 1}, "a <- \"z\" / \"x\"?")
	becomes(t, "a <- [] / \"y\"", api.Step{Way: 2}, "a <- \"y\"")
	becomes(t, "a <- \"y\" / [] / \"z\"", api.Step{Way: 2, At: 1}, "a <- \"y\" / \"z\"")
	becomes(t, "a <- \"y\" / []", api.Step{Way: 2, At: 1}, "a <- \"y\"")
	becomes(t, "a <- \"x\" ([] / \"y\" \"z\")", api.Step{Way: 2, Path: []int{1}}, "a <- \"x\" \"y\" \"z\"")
	becomes(t, "a <- \"x\" [] \"y\"", api.Step{Way: 3, At: 1}, "a <- \"x\" []")
	becomes(t, "a <- \"x\" [] \"y\"", api.Step{Way: 3, At: 2}, "")
	becomes(t, "a <- \"x\" []", api.Step{Way: 3, At: 1}, "")
	becomes(t, "a <- [] b b <- a", api.Step{Way: 3}, "a <- [] b <- a")
	becomes(t, "a <- b / \"y\" b <- \"x\" b / \"\"", api.Step{Way: 1}, "a <- b b <- \"x\" b / \"\"")
	becomes(t, "a <- b / \"y\" b <- \"x\" b", api.Step{Way: 2}, "a <- \"y\" b <- \"x\" b")
	becomes(t, "a <- b / \"y\" b <- \"x\" b", api.Step{Way: 2, At: 1}, "")
	becomes(t, "a <- (\"x\"* / \"y\") / \"z\"", api.Step{Way: 1}, "a <- \"x\"*")
	becomes(t, "a <- [] []", api.Step{Way: 2}, "")
	becomes(t, "a <- [] []", api.Step{Way: 4}, "")
	if got := dead.Steps(read(t, "a <- \"x\" / \"y\"")); len(got) != 0 {
		t.Error(got)
	}
}

func TestIdle(t *testing.T) {
	for text, want := range map[string]int{
		"a <- \"x\"* / \"y\" / \"z\"": 2, "a <- \"x\" / \"y\"": 0, "a <- [] / \"x\" / [] / \"\" / \"y\" / []": 4, "a <- \"x\" [] [] \"y\"": 2, "a <- \"x\" []": 0, "a <- ([] [] / []) \"x\" []": 1 + 2 + 2, "a <- []": 0, "a <- \"\" / \"\"": 1, "a <- b b <- [] / []": 2,
	} {
		if got := dead.Idle(read(t, text)); got != want {
			t.Error(text, got)
		}
	}
	if dead.Idle(read(t, "a <- a / [] / \"\" / []")) != 0 || dead.Idle(api.Grammar{}) != 0 {
		t.Error("of one that is not well-formed")
	}
	s := sample.New(200)
	for range 1500 {
		g := s.Grammar(1+s.Below(4), 1+s.Below(4))
		if well.Check(g) != api.OK {
			continue
		}
		if got := dead.Idle(g); got != counted(g) {
			t.Fatal(print.Grammar(g), got)
		}
		for n := 0; ; n++ {
			step, ok := dead.First(g)
			if !ok {
				break
			}
			next, _ := dead.Do(g, step)
			if dead.Idle(g) == 0 || gram.Nodes(next) >= gram.Nodes(g) || n > 1024 {
				t.Fatal("steps, and kids that never count", print.Grammar(g))
			}
			g = next
		}
	}
}

// counted is P20.2's words.
func counted(g api.Grammar) int {
	l, _ := flow.Of(g)
	out := 0
	for _, d := range g.Rules {
		f, _ := flow.Nodes(g, l, d.Body)
		for _, n := range d.Body.Nodes {
			gone := false
			for _, kid := range n.Kids {
				switch n.Kind {
				case api.Choice:
					if gone || !f[kid].Succeeds() {
						out++
					}
					gone = gone || !f[kid].Fail
				case api.Seq:
					if gone {
						out++
					}
					gone = gone || !f[kid].Succeeds()
				}
			}
		}
	}
	return out
}
