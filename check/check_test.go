package check_test

import (
	"reflect"
	"testing"

	"bonsai/api"
	"bonsai/check"
	"bonsai/gram"
	"bonsai/log"
	"bonsai/optim"
	"bonsai/parse"
	"bonsai/print"
	"bonsai/redex"
	"bonsai/sample"
	"bonsai/tree"
	"bonsai/well"
)

func read(t *testing.T, text string) api.Grammar {
	t.Helper()
	g, _, e := parse.Grammar(text)
	if e != api.OK || gram.May(g) != api.OK {
		t.Fatal(text, e)
	}
	return g
}

func step(s api.Step) log.Item { return log.Item{Step: s} }

func mark() log.Item { return log.Item{Mark: true} }

func TestExamples(t *testing.T) {
	g := read(t, "a <- b \"x\" b <- \"y\"")
	inline, prune := api.Step{Pass: api.Inline, Way: 1, Path: []int{0}}, api.Step{Pass: api.Prune, Way: 1, Rule: 1}
	want := read(t, "a <- \"y\" \"x\"")
	h, at, e := check.Replay(g, []log.Item{step(inline), step(prune)})
	if e != api.OK || at != 0 || !gram.Same(h, want) {
		t.Error(print.Grammar(h), at, e)
	}
	if !check.Goes(g, want, []log.Item{mark(), step(inline), mark(), mark(), step(prune), mark()}) || check.Goes(g, g, []log.Item{step(inline)}) || !check.Goes(g, g, nil) || !check.Goes(g, g, []log.Item{mark()}) || check.Goes(g, want, nil) {
		t.Error("Goes")
	}
	h, at, e = check.Replay(g, []log.Item{step(prune), step(inline)})
	if e != api.ErrStep || at != 0 || len(h.Rules) != 0 {
		t.Error(at, e)
	}
	h, at, e = check.Replay(g, []log.Item{mark(), step(inline), step(inline)})
	if e != api.ErrStep || at != 2 || len(h.Rules) != 0 {
		t.Error(at, e)
	}
}

// TestTable has of each row of the table what it says.
func TestTable(t *testing.T) {
	for _, row := range []struct {
		from string
		s    api.Step
		to   string
	}{
		{"a <- b b <- \"y\" / .", api.Step{Pass: 1, Way: 1}, "a <- \"y\" / . b <- \"y\" / ."}, {"a <- \"x\" a / .", api.Step{Pass: 1, Way: 1, Path: []int{0, 1}}, ""}, {"a <- b b <- .", api.Step{Pass: 1, Way: 1, At: 1}, ""}, {"a <- b b <- .", api.Step{Pass: 1, Way: 2}, ""},
		{"a <- .* / .", api.Step{Pass: 2, Way: 1}, "a <- .*"}, {"a <- . / .*", api.Step{Pass: 2, Way: 1, At: 1}, ""}, {"a <- [] / .", api.Step{Pass: 2, Way: 2}, "a <- ."}, {"a <- . / []", api.Step{Pass: 2, Way: 2, At: 1}, "a <- ."}, {"a <- [] .", api.Step{Pass: 2, Way: 3}, "a <- []"}, {"a <- . []", api.Step{Pass: 2, Way: 3, At: 1}, ""}, {"a <- [] .", api.Step{Pass: 2, Way: 4}, ""},
		{"a <- . / .", api.Step{Pass: 3, Way: 1}, "a <- ."}, {"a <- . b / . c b <- . c <- .", api.Step{Pass: 3, Way: 2}, "a <- . (b / c) b <- . c <- ."}, {"a <- \"xy\" / \"xz\" .", api.Step{Pass: 3, Way: 3}, "a <- \"x\" (\"y\" / \"z\" .)"}, {"a <- \"xy\" / \"x\"", api.Step{Pass: 3, Way: 3}, "a <- \"x\" (\"y\" / \"\")"}, {"a <- . / .", api.Step{Pass: 3, Way: 2}, ""}, {"a <- \"x\" . / \"x\"", api.Step{Pass: 3, Way: 3}, ""}, {"a <- . / . .", api.Step{Pass: 3, Way: 1}, ""}, {"a <- . / .", api.Step{Pass: 3, Way: 1, At: 1}, ""}, {"a <- . / .", api.Step{Pass: 3, Way: 1, At: -1}, ""},
		{"a <- !!.", api.Step{Pass: 4, Way: 1}, "a <- &."}, {"a <- &&.", api.Step{Pass: 4, Way: 2}, "a <- &."}, {"a <- !&.", api.Step{Pass: 4, Way: 3}, "a <- !."}, {"a <- &!.", api.Step{Pass: 4, Way: 4}, "a <- !."}, {"a <- &.? .", api.Step{Pass: 4, Way: 5, Path: []int{0}}, "a <- ."}, {"a <- ![]", api.Step{Pass: 4, Way: 5}, "a <- \"\""}, {"a <- &[]", api.Step{Pass: 4, Way: 6}, "a <- []"}, {"a <- !\"\"", api.Step{Pass: 4, Way: 6}, "a <- []"}, {"a <- &\"\"", api.Step{Pass: 4, Way: 6}, ""},
		{"a <- &<n: .>", api.Step{Pass: 4, Way: 7}, "a <- &."}, {"a <- !<n: .>", api.Step{Pass: 4, Way: 7}, "a <- !."}, {"a <- &\"x\" \"x\"", api.Step{Pass: 4, Way: 8}, "a <- \"x\""}, {"a <- ![x] \"y\"", api.Step{Pass: 4, Way: 9}, "a <- \"y\""}, {"a <- ![x] \"x\"", api.Step{Pass: 4, Way: 9}, ""}, {"a <- ![x] \"y\"?", api.Step{Pass: 4, Way: 9}, ""}, {"a <- &[xy] \"y\"", api.Step{Pass: 4, Way: 10}, "a <- \"y\""}, {"a <- &[xy] .", api.Step{Pass: 4, Way: 10}, ""}, {"a <- &\"x\" \"x\"", api.Step{Pass: 4, Way: 10}, ""}, {"a <- &\"x\" \"x\"", api.Step{Pass: 4, Way: 11}, ""},
		{"a <- \"x\" / [y]", api.Step{Pass: 5, Way: 1}, "a <- [xy]"}, {"a <- ![x] [xy]", api.Step{Pass: 5, Way: 2}, "a <- [y]"}, {"a <- &[x] [xy]", api.Step{Pass: 5, Way: 3}, "a <- [x]"}, {"a <- ![x] \"x\"", api.Step{Pass: 5, Way: 2}, ""}, {"a <- \"x\" / \"yz\"", api.Step{Pass: 5, Way: 1}, ""}, {"a <- \"x\" \"y\"", api.Step{Pass: 5, Way: 1}, ""},
		{"a <- .{1}", api.Step{Pass: 6, Way: 1}, "a <- ."}, {"a <- .{0}", api.Step{Pass: 6, Way: 2}, "a <- \"\""}, {"a <- . .*", api.Step{Pass: 6, Way: 3}, "a <- .+"}, {"a <- .* .", api.Step{Pass: 6, Way: 3}, ""}, {"a <- .{99} .", api.Step{Pass: 6, Way: 3}, ""}, {"a <- (.+)*", api.Step{Pass: 6, Way: 4}, "a <- .*"}, {"a <- (.{1,2})?", api.Step{Pass: 6, Way: 5}, "a <- .{0,2}"}, {"a <- \"x\" \"y\"", api.Step{Pass: 6, Way: 6}, "a <- \"xy\""}, {"a <- . .", api.Step{Pass: 6, Way: 6}, ""}, {"a <- .{1}", api.Step{Pass: 6, Way: 1, At: 1}, ""}, {"a <- .{1}", api.Step{Pass: 6, Way: 7}, ""},
		{"a <- (.+){2,}", api.Step{Pass: 6, Way: 4}, ""}, {"a <- (.+){0}", api.Step{Pass: 6, Way: 4}, ""}, {"a <- (.{2,})?", api.Step{Pass: 6, Way: 4}, ""}, {"a <- (.{1,2})?", api.Step{Pass: 6, Way: 4}, ""}, {"a <- (.*)?", api.Step{Pass: 6, Way: 4}, ""}, {"a <- (.+){1,3}", api.Step{Pass: 6, Way: 4}, "a <- .+"}, {"a <- (.{2,3})?", api.Step{Pass: 6, Way: 5}, ""}, {"a <- (.{1,3}){0,2}", api.Step{Pass: 6, Way: 5}, ""}, {"a <- (.?){1}", api.Step{Pass: 6, Way: 5}, ""}, {"a <- (.*)?", api.Step{Pass: 6, Way: 5}, "a <- .*"}, {"a <- .{2}", api.Step{Pass: 6, Way: 1}, ""}, {"a <- .?", api.Step{Pass: 6, Way: 1}, ""}, {"a <- .+", api.Step{Pass: 6, Way: 1}, ""}, {"a <- .*", api.Step{Pass: 6, Way: 2}, ""},
		{"a <- &\"x\" \"y\"", api.Step{Pass: 4, Way: 8}, ""}, {"a <- !\"x\" \"x\"", api.Step{Pass: 4, Way: 8}, ""}, {"a <- !\"x\" \"y\"", api.Step{Pass: 4, Way: 9}, ""}, {"a <- &[xy] [xyz]", api.Step{Pass: 4, Way: 10}, ""}, {"a <- &[xy] \"y\"*", api.Step{Pass: 4, Way: 10}, ""}, {"a <- &[xy] \"y\"", api.Step{Pass: 4, Way: 9}, ""}, {"a <- &.", api.Step{Pass: 4, Way: 5}, ""}, {"a <- !.", api.Step{Pass: 4, Way: 5}, ""}, {"a <- &.", api.Step{Pass: 4, Way: 6}, ""}, {"a <- !.", api.Step{Pass: 4, Way: 6}, ""}, {"a <- &.", api.Step{Pass: 4, Way: 7}, ""}, {"a <- <n: &.>", api.Step{Pass: 4, Way: 7}, ""},
		{"a <- . b <- .", api.Step{Pass: 7, Way: 1, Rule: 1}, "a <- ."}, {"a <- . b <- .", api.Step{Pass: 7, Way: 1}, ""}, {"a <- . b <- .", api.Step{Pass: 7, Way: 1, Rule: 1, Path: []int{0}}, ""}, {"a <- . b <- .", api.Step{Pass: 7, Way: 1, Rule: 1, At: 1}, ""}, {"a <- . b <- .", api.Step{Pass: 7, Way: 2, Rule: 1}, ""}, {"a <- b b <- .", api.Step{Pass: 7, Way: 1, Rule: 1}, ""}, {"a <- c b <- . c <- . d <- b", api.Step{Pass: 7, Way: 1, Rule: 1}, "a <- c c <- ."},
		{"a <- . .", api.Step{}, ""}, {"a <- . .", api.Step{Pass: 8, Way: 1}, ""}, {"a <- . .", api.Step{Pass: 255, Way: 255, Rule: -1, Path: []int{-1}, At: -1}, ""}, {"a <- . .", api.Step{Pass: 6, Way: 3, Rule: 1}, ""}, {"a <- . .", api.Step{Pass: 6, Way: 3, Path: []int{2}}, ""}, {"a <- . .", api.Step{Pass: 6, Way: 3, Rule: 1 << 40}, ""},
	} {
		g := read(t, row.from)
		out, e := check.Step(g, row.s)
		if row.to == "" {
			if e != api.ErrStep || len(out.Rules) != 0 {
				t.Error(row, print.Grammar(out), e)
			}
		} else if e != api.OK || !gram.Same(out, read(t, row.to)) {
			t.Error(row, print.Grammar(out), e)
		}
	}
}

func TestAgainstTheTable(t *testing.T) {
	s := sample.New(281)
	told := [8]int{}
	for range 1500 {
		g := s.Grammar(1+s.Below(4), 1+s.Below(4))
		if e := well.Check(g); e != api.OK {
			if out, f := check.Step(g, api.Step{Pass: 6, Way: 3}); f != e || len(out.Rules) != 0 {
				t.Fatal(e, f)
			}
			continue
		}
		for pass := api.Inline; pass <= api.Prune; pass++ {
			steps := redex.Steps(g, pass)
			told[pass] += len(steps)
			for _, one := range steps {
				want, _ := redex.Do(g, one)
				if out, e := check.Step(g, one); e != api.OK || !gram.Same(out, want) {
					t.Fatal(print.Grammar(g), one, print.Grammar(out), e)
				}
			}
			for range 4 {
				other := redex.Other(g, pass, steps, s)
				want, is := redex.Do(g, other)
				if other.Pass == 0 || other.Pass > api.Prune {
					is = false
				}
				out, e := check.Step(g, other)
				if is != (e == api.OK) || is && !gram.Same(out, want) || !is && (e != api.ErrStep || len(out.Rules) != 0) {
					t.Fatal(print.Grammar(g), other, print.Grammar(out), e)
				}
			}
		}
	}
	for pass := api.Inline; pass <= api.Prune; pass++ {
		if told[pass] < 50 {
			t.Error("too few steps of", pass, told[pass])
		}
	}
}

func TestNear(t *testing.T) {
	s := sample.New(284)
	tried := 0
	for range 400 {
		g := s.Grammar(1+s.Below(2), 1+s.Below(3))
		if well.Check(g) != api.OK || gram.Nodes(g) > 25 {
			continue
		}
		tried++
		for pass := api.Inline; pass <= api.Prune; pass++ {
			for _, one := range redex.Near(g, pass) {
				want, is := redex.Do(g, one)
				out, e := check.Step(g, one)
				if is != (e == api.OK) || is && !gram.Same(out, want) || !is && (e != api.ErrStep || len(out.Rules) != 0) {
					t.Fatal(print.Grammar(g), one, print.Grammar(out), e)
				}
			}
		}
	}
	if tried < 100 {
		t.Fatal(tried)
	}
}

func TestTooLarge(t *testing.T) {
	for _, row := range []struct {
		begin, grown string
		s            api.Step
	}{
		{". .", ".{2}", api.Step{Pass: 6, Way: 3}}, {"![ -~] .", "[\\x00-\\x1f\\x7f-\\xff]", api.Step{Pass: 5, Way: 2}}, {"(\"ab\" / \"ac\")", "\"a\" (\"b\" / \"c\")", api.Step{Pass: 3, Way: 3, Path: []int{0}}},
	} {
		more := len(row.grown) - len(row.begin)
		out, e := check.Step(read(t, redex.Filled(row.begin, api.MaxBytes-more)), row.s)
		if e != api.OK || !gram.Same(out, read(t, redex.Filled(row.grown, api.MaxBytes))) {
			t.Error(row, e)
		}
		if out, e := check.Step(read(t, redex.Filled(row.begin, api.MaxBytes-more+1)), row.s); e != api.ErrStep || len(out.Rules) != 0 {
			t.Error(row, e)
		}
	}
}

// walk makes a log of some steps, and what comes of it.
func walk(g api.Grammar, s *sample.Source, n int) ([]log.Item, api.Grammar) {
	var l []log.Item
	for range n {
		if s.OneIn(3) {
			l = append(l, mark())
		}
		steps := redex.Steps(g, 1+uint8(s.Below(7)))
		if len(steps) == 0 {
			continue
		}
		one := steps[s.Below(len(steps))]
		g, _ = redex.Do(g, one)
		l = append(l, step(one))
	}
	return l, g
}

func TestReplay(t *testing.T) {
	s := sample.New(282)
	long := 0
	for range 1500 {
		g := s.Grammar(1+s.Below(4), 1+s.Below(4))
		if well.Check(g) != api.OK {
			continue
		}
		before := gram.Copy(g)
		l, want := walk(g, s, 6)
		long += len(l)
		h, at, e := check.Replay(g, l)
		if e != api.OK || at != 0 || !gram.Same(h, want) || !check.Goes(g, want, l) {
			t.Fatal(print.Grammar(g), l, print.Grammar(h), at, e)
		}
		if same := gram.Same(g, want); check.Goes(g, g, l) != same {
			t.Fatal("it goes to one at most")
		}
		cut := s.Below(len(l) + 1)
		half, _, _ := check.Replay(g, l[:cut])
		if again, at, e := check.Replay(half, l[cut:]); e != api.OK || at != 0 || !gram.Same(again, want) {
			t.Fatal("one behind the other")
		}
		bad := append(append([]log.Item{}, l...), step(api.Step{Pass: 1, Way: 1, Rule: 64}), log.Item{})
		if h, at, e := check.Replay(g, bad); e != api.ErrStep || at != len(l) || len(h.Rules) != 0 || check.Goes(g, want, bad) {
			t.Fatal(at, e)
		}
		bad[len(l)] = log.Item{Mark: true, Step: api.Step{At: 1}}
		if h, at, e := check.Replay(g, bad); e != api.ErrForm || at != len(l) || len(h.Rules) != 0 || check.Goes(g, want, bad) {
			t.Fatal(at, e)
		}
		if !gram.Same(before, g) {
			t.Fatal("changed")
		}
		for i := range h.Rules {
			h.Rules[i].Body.Nodes[0] = api.Node{Kind: 9}
		}
		if !gram.Same(before, g) {
			t.Fatal("memory is shared")
		}
	}
	if long < 2000 {
		t.Fatal(long)
	}
}

func TestNodeByNode(t *testing.T) {
	s := sample.New(283)
	for range 500 {
		g := s.Grammar(3, 3)
		if well.Check(g) != api.OK {
			continue
		}
		l, _ := walk(g, s, 3)
		h, _, _ := check.Replay(g, l)
		done := map[string]int{}
		for _, x := range l {
			if !x.Mark && x.Step.Pass != api.Prune {
				// Rules have their places till one is pruned.
				done[g.Rules[x.Step.Rule].Name]++
			}
		}
		if len(h.Rules) != len(g.Rules) {
			continue
		}
		for i, d := range h.Rules {
			if done[d.Name] == 0 && !reflect.DeepEqual(d.Body, gram.Copy(g).Rules[i].Body) {
				t.Fatal("node by node", print.Grammar(g))
			}
		}
	}
	out, _ := check.Step(read(t, "a <- . b <- ."), api.Step{Pass: 7, Way: 1, Rule: 1})
	turned := api.Grammar{Rules: []api.Def{{Name: "a", Body: api.Tree{Nodes: []api.Node{{Kind: api.Text, Text: "y"}, {Kind: api.Text, Text: "x"}, {Kind: api.Seq, Kids: []int{1, 0}}}, Root: 2}}, {Name: "b", Body: out.Rules[0].Body}}}
	h, e := check.Step(turned, api.Step{Pass: 7, Way: 1, Rule: 1})
	if e != api.OK || h.Rules[0].Body.Nodes[0].Text != "y" {
		t.Error(h, e)
	}
}

// alike tells whether two grammars are the same, node by node.
func alike(a, b api.Grammar) bool { return reflect.DeepEqual(gram.Copy(a), gram.Copy(b)) }

// isClean tells whether a tree's nodes are just those of the same tree, clean.
func isClean(t api.Tree) bool {
	body := func(t api.Tree) api.Grammar { return api.Grammar{Rules: []api.Def{{Body: t}}} }
	return alike(body(t), body(tree.Clean(t)))
}

// TestAsThePassesDo has grammars whose bodies are not clean: a step's own body becomes clean, the others stay as they are, and so it is by the passes.
func TestAsThePassesDo(t *testing.T) {
	s := sample.New(285)
	whole, unclean := 0, 0
	for range 1500 {
		g := s.Grammar(1+s.Below(4), 1+s.Below(4))
		for pass := api.Inline; pass <= api.Prune; pass++ {
			for _, one := range optim.Steps(g, pass) {
				want, _ := optim.Do(g, one)
				out, e := check.Step(g, one)
				if e != api.OK || !alike(out, want) {
					t.Fatal(g, one, out, e)
				}
				h, at, e := check.Replay(g, []log.Item{mark(), step(one)})
				if e != api.OK || at != 0 || !alike(h, want) {
					t.Fatal(g, one, h, at, e)
				}
				if pass == api.Prune {
					continue
				}
				for i, d := range g.Rules {
					if i == one.Rule && !isClean(out.Rules[i].Body) || i != one.Rule && !reflect.DeepEqual(d, gram.Copy(out).Rules[i]) {
						t.Fatal(g, one, out)
					}
				}
				if pass == api.Inline && len(one.Path) == 0 {
					if whole++; !isClean(g.Rules[gram.Find(g, g.Rules[one.Rule].Body.Nodes[0].Text)].Body) {
						unclean++
					}
				}
			}
		}
	}
	if whole < 30 || unclean < 10 {
		t.Fatal("too few bodies as a whole", whole, unclean)
	}
}

// TestLogAsTheRun has the log of a run, and what the run tells, node by node.
func TestLogAsTheRun(t *testing.T) {
	s := sample.New(286)
	for range 3000 {
		g := s.Grammar(1+s.Below(4), 1+s.Below(4))
		script, _, _ := optim.Parse("run inline:3 dead:3 factor:3 pred:3 merge:3 fuse:3 prune:1")
		want, l, e := optim.Run(g, script)
		if e != api.OK {
			continue
		}
		if h, at, e := check.Replay(g, l); e != api.OK || at != 0 || !alike(h, want) || !check.Goes(g, want, l) {
			t.Fatal(g, l, h, at, e)
		}
	}
}

func TestWrong(t *testing.T) {
	g := read(t, "a <- b b <- .")
	many := make([]log.Item, 4097)
	for i := range many {
		many[i] = mark()
	}
	if h, at, e := check.Replay(g, many[:4096]); e != api.OK || at != 0 || !gram.Same(h, g) {
		t.Error(at, e)
	}
	many[0] = log.Item{}
	if h, at, e := check.Replay(g, many); e != api.ErrTooLarge || at != 0 || len(h.Rules) != 0 {
		t.Error(at, e)
	}
	for _, bad := range []api.Grammar{{}, {Rules: g.Rules[:1]}, {Rules: []api.Def{g.Rules[1], g.Rules[1]}}, {Rules: make([]api.Def, 65)}, read(t, "a <- a"), read(t, "a <- .?*")} {
		h, at, e := check.Replay(bad, many)
		out, f := check.Step(bad, api.Step{Pass: 1, Way: 1})
		if e != well.Check(bad) || e == api.OK || f != e || at != 0 || len(h.Rules)+len(out.Rules) != 0 || check.Goes(bad, bad, nil) || check.Goes(g, bad, nil) {
			t.Error(at, e, f)
		}
	}
	// What comes of a step must be well-formed, too.
	if out, e := check.Step(read(t, "a <- \"x\"{50} \"x\"{50}"), api.Step{Pass: 6, Way: 3}); e != api.ErrStep || len(out.Rules) != 0 {
		t.Error(e)
	}
	loops := read(t, "a <- (\"\"){3} (\"x\" \"\"?){0,2}")
	if out, e := check.Step(loops, api.Step{Pass: 6, Way: 3}); e != api.ErrStep || len(out.Rules) != 0 {
		t.Error(e)
	}
}
