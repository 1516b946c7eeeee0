package fuse_test

import (
	"strings"
	"testing"

	"bonsai/api"
	"bonsai/fuse"
	"bonsai/gram"
	"bonsai/parse"
	"bonsai/print"
	"bonsai/redex"
	"bonsai/sample"
	"bonsai/well"
)

func read(t *testing.T, text string) api.Grammar {
	t.Helper()
	g, _, e := parse.Grammar(text)
	if e != api.OK || gram.May(g) != api.OK {
		t.Fatal(text, e)
	}
	return g
}

func this() redex.Pass {
	return redex.Pass{Number: api.Fuse, Steps: fuse.Steps, First: fuse.First, Do: fuse.Do}
}

// becomes asks what comes of a step.
func becomes(t *testing.T, from string, s api.Step, to string) {
	t.Helper()
	g := read(t, from)
	s.Pass = api.Fuse
	out, e := fuse.Do(g, s)
	if to == "" {
		if e != api.ErrStep || len(out.Rules) != 0 {
			t.Errorf("%s: %v: %q %v", from, s, print.Grammar(out), e)
		}
		return
	}
	if e != api.OK || !gram.Same(out, read(t, to)) {
		t.Errorf("%s: %v: %q %v", from, s, print.Grammar(out), e)
	}
	found := 0
	for _, step := range fuse.Steps(g) {
		if redex.Same(step, s) {
			found++
		}
	}
	if found != 1 {
		t.Errorf("%s: %v stands %d times among the steps", from, s, found)
	}
}

func TestAgainstTheTable(t *testing.T) {
	s := sample.New(194)
	steps, tried := 0, 0
	for range 2500 {
		g := s.Grammar(1+s.Below(4), 1+s.Below(4))
		if s.OneIn(40) {
			g.Rules[0].Body = s.Broken(g.Rules[0].Body)
		}
		if fault := this().Fault(g, s); fault != "" {
			t.Fatal(fault)
		}
		if well.Check(g) == api.OK {
			tried++
		}
		steps += len(fuse.Steps(g))
	}
	if tried < 1000 || steps < 100 {
		t.Fatal(tried, steps)
	}
}

func TestExamples(t *testing.T) {
	long, more := strings.Repeat("x", 200), strings.Repeat("y", 55)
	for _, row := range []struct {
		from string
		s    api.Step
		to   string
	}{
		{"a <- \"x\"{1}", api.Step{Way: 1}, "a <- \"x\""}, {"a <- \"x\"{1} . ", api.Step{Way: 1, Path: []int{0}}, "a <- \"x\" ."}, {"a <- (. b){1} b b <- .", api.Step{Way: 1, Path: []int{0}}, "a <- . b b b <- ."}, {"a <- \"x\"{1,2}", api.Step{Way: 1}, ""}, {"a <- \"x\"{1}", api.Step{Way: 1, At: 1}, ""}, {"a <- \"x\"{1}", api.Step{Way: 1, At: -1}, ""},
		{"a <- \"x\"{0} \"y\"", api.Step{Way: 2, Path: []int{0}}, "a <- \"y\""}, {"a <- a{0}", api.Step{Way: 2}, "a <- \"\""}, {"a <- \"x\"?", api.Step{Way: 2}, ""},
		{"a <- \"x\" \"x\"*", api.Step{Way: 3}, "a <- \"x\"+"}, {"a <- \"x\"? \"x\"{2}", api.Step{Way: 3}, ""}, {"a <- \"x\"{2} \"x\"?", api.Step{Way: 3}, "a <- \"x\"{2,3}"}, {"a <- \"x\"* \"x\"{0,3}", api.Step{Way: 3}, "a <- \"x\"*"}, {"a <- \"x\"* \"x\"", api.Step{Way: 3}, ""}, {"a <- \"x\" \"x\"", api.Step{Way: 3}, "a <- \"x\"{2}"}, {"a <- \"x\"{0} \"x\"", api.Step{Way: 3}, "a <- \"x\"{1}"},
		{"a <- \"x\"{50} \"x\"{49}", api.Step{Way: 3}, "a <- \"x\"{99}"}, {"a <- \"x\"{50} \"x\"{50}", api.Step{Way: 3}, ""}, {"a <- \"x\"{0,50} \"x\"{0,50}", api.Step{Way: 3}, ""}, {"a <- \"x\"{1,50} \"x\"{0,49}", api.Step{Way: 3}, "a <- \"x\"{1,99}"}, {"a <- \"x\"{99} \"x\"*", api.Step{Way: 3}, "a <- \"x\"{99,}"}, {"a <- \"x\"{99} \"x\"+", api.Step{Way: 3}, ""}, {"a <- \"x\"+ \"x\"*", api.Step{Way: 3}, "a <- \"x\"+"}, {"a <- \"x\"+ \"x\"+", api.Step{Way: 3}, ""}, {"a <- \"x\"{3} \"x\"{2,}", api.Step{Way: 3}, "a <- \"x\"{5,}"}, {"a <- . b b{2,4} . b <- .", api.Step{Way: 3, At: 1}, "a <- . b{3,5} . b <- ."},
		{"a <- \"\"? \"\"?", api.Step{Way: 3}, "a <- \"\"{0,2}"}, {"a <- \"x\"{2} \"y\"{2}", api.Step{Way: 3}, ""}, {"a <- (\"x\"?){2} (\"x\"?){2}", api.Step{Way: 3}, "a <- (\"x\"?){4}"}, {"a <- \"x\"?? \"x\"?", api.Step{Way: 3}, ""}, {"a <- \"x\" \"x\"", api.Step{Way: 3, At: 1}, ""},
		{"a <- (\"x\"+)*", api.Step{Way: 4}, "a <- \"x\"*"}, {"a <- (\"x\"+)+", api.Step{Way: 4}, "a <- \"x\"+"}, {"a <- (\"x\"+)?", api.Step{Way: 4}, "a <- \"x\"*"}, {"a <- (\"x\"+){1,7}", api.Step{Way: 4}, "a <- \"x\"+"}, {"a <- (\"x\"+){0}", api.Step{Way: 4}, ""}, {"a <- (\"x\"+){2,}", api.Step{Way: 4}, ""}, {"a <- (\"x\"*)?", api.Step{Way: 4}, ""}, {"a <- (\"x\"{1,9})?", api.Step{Way: 4}, ""},
		{"a <- (\"x\"{1,5})?", api.Step{Way: 5}, "a <- \"x\"{0,5}"}, {"a <- (\"x\"*)?", api.Step{Way: 5}, "a <- \"x\"*"}, {"a <- (\"x\"+)?", api.Step{Way: 5}, "a <- \"x\"*"}, {"a <- (\"x\"{0})?", api.Step{Way: 5}, "a <- \"x\"{0}"}, {"a <- (\"x\"{2,5})?", api.Step{Way: 5}, ""}, {"a <- (\"x\"{1,5}){0,2}", api.Step{Way: 5}, ""}, {"a <- \"x\"?", api.Step{Way: 5}, ""},
		{"a <- \"x\" \"yz\"", api.Step{Way: 6}, "a <- \"xyz\""}, {"a <- . \"x\" \"yz\" .", api.Step{Way: 6, At: 1}, "a <- . \"xyz\" ."}, {"a <- \"x\" [y]", api.Step{Way: 6}, ""}, {"a <- \"" + long + "\" \"" + more + "\"", api.Step{Way: 6}, "a <- \"" + long + more + "\""}, {"a <- \"" + long + "\" \"" + more + "z\"", api.Step{Way: 6}, ""}, {"a <- \"x\" / \"y\"", api.Step{Way: 6}, ""},
		{"a <- \"x\" \"y\"", api.Step{Way: 7}, ""}, {"a <- \"x\" \"y\"", api.Step{}, ""},
	} {
		becomes(t, row.from, row.s, row.to)
	}
}

func TestWeight(t *testing.T) {
	for text, want := range map[string]int{"a <- \"x\"": 1, "a <- \"x\" \"y\"": 5, "a <- (\"x\" .)* . / a": 8 + 4} {
		if got := fuse.Weight(read(t, text)); got != want {
			t.Error(text, got)
		}
	}
	if fuse.Weight(api.Grammar{}) != 0 || fuse.Weight(api.Grammar{Rules: []api.Def{{Name: "a", Body: sample.Deep(40, api.Node{Kind: api.And})}}}) != 0 {
		t.Error("of one that may not be")
	}
	s := sample.New(240)
	for range 1000 {
		g := s.Grammar(1+s.Below(4), 1+s.Below(4))
		for n := 0; ; n++ {
			step, ok := fuse.First(g)
			if !ok {
				break
			}
			next, _ := fuse.Do(g, step)
			if fuse.Weight(next) >= fuse.Weight(g) || n > 4096 {
				t.Fatal("less", print.Grammar(g), print.Grammar(next))
			}
			g = next
		}
		if well.Check(g) == api.OK {
			done(t, g)
		}
	}
}

// done asks for what is no more where there is no step.
func done(t *testing.T, g api.Grammar) {
	t.Helper()
	for _, d := range g.Rules {
		for _, n := range d.Body.Nodes {
			if n.Kind == api.Rep && n.Min == n.Max && n.Max < 2 {
				t.Fatal("a Rep 1, 1 or 0, 0", print.Grammar(g))
			}
			for i := 1; n.Kind == api.Seq && i < len(n.Kids); i++ {
				a, b := d.Body.Nodes[n.Kids[i-1]], d.Body.Nodes[n.Kids[i]]
				if a.Kind == api.Text && b.Kind == api.Text {
					t.Fatal("two Texts", print.Grammar(g))
				}
			}
		}
	}
}

func TestTooLarge(t *testing.T) {
	begin, grown := ". .", ".{2}"
	more := len(grown) - len(begin)
	s := api.Step{Way: 3}
	becomes(t, redex.Filled(begin, api.MaxBytes-more), s, redex.Filled(grown, api.MaxBytes))
	becomes(t, redex.Filled(begin, api.MaxBytes-more+1), s, "")
	if got := fuse.Steps(read(t, redex.Filled(begin, api.MaxBytes))); len(got) != 0 {
		t.Error(got)
	}
	if got, ok := fuse.First(read(t, redex.Filled(begin, api.MaxBytes))); ok {
		t.Error(got)
	}
}

func TestTooDeep(t *testing.T) {
	nots := strings.Repeat("!", 29)
	becomes(t, "a <- "+nots+"(. . \"y\")", api.Step{Way: 3, Path: make([]int, 29)}, "a <- "+nots+"(.{2} \"y\")")
	becomes(t, "a <- !"+nots+"(. . \"y\")", api.Step{Way: 3, Path: make([]int, 30)}, "")
	becomes(t, "a <- !"+nots+"(. .)", api.Step{Way: 3, Path: make([]int, 30)}, "a <- !"+nots+".{2}")
}
