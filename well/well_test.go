package well_test

import (
	"reflect"
	"testing"

	"bonsai/api"
	"bonsai/flow"
	"bonsai/gram"
	"bonsai/parse"
	"bonsai/sample"
	"bonsai/tree"
	"bonsai/well"
)

func read(t *testing.T, text string) api.Grammar {
	t.Helper()
	g, _, e := parse.Grammar(text)
	if e != api.OK {
		t.Fatal(text, e)
	}
	return g
}

func same(a, b []int) bool { return len(a) == len(b) && (len(a) == 0 || reflect.DeepEqual(a, b)) }

func TestExamples(t *testing.T) {
	for text, want := range map[string]struct {
		e           api.Errno
		rule        int
		left, loops []int
	}{
		"a <- a \"x\" / \"y\"":                         {api.ErrLeft, 0, []int{0}, nil},
		"a <- b b <- \"x\"? a":                         {api.ErrLeft, 0, []int{0, 1}, nil},
		"a <- b b <- \"x\" a":                          {api.OK, 0, nil, nil},
		"a <- (\"x\"?)*":                               {api.ErrLoop, 0, nil, []int{0}},
		"a <- (\"x\"?){0,9}":                           {api.OK, 0, nil, nil},
		"a <- !a \"x\"":                                {api.ErrLeft, 0, []int{0}, nil},
		"a <- \"x\" a / \"\"":                          {api.OK, 0, nil, nil},
		"a <- \"x\" b <- (!\"x\")* c <- c":             {api.ErrLeft, 2, []int{2}, []int{1}},
		"a <- \"x\" b <- \"y\"* c <- (\"\"){1,}":       {api.ErrLoop, 2, nil, []int{2}},
		"a <- a{0}":                                    {api.OK, 0, nil, nil},
		"a <- (\"x\" a){0} a":                          {api.ErrLeft, 0, []int{0}, nil},
		"a <- a{0,2}":                                  {api.ErrLeft, 0, []int{0}, nil},
		"a <- \"x\" / \"y\" / a":                       {api.ErrLeft, 0, []int{0}, nil},
		"a <- \"x\"* a":                                {api.ErrLeft, 0, []int{0}, nil},
		"a <- \"x\"+ a":                                {api.OK, 0, nil, nil},
		"a <- &\"x\" a":                                {api.ErrLeft, 0, []int{0}, nil},
		"a <- <n: b> a b <- \"\"":                      {api.ErrLeft, 0, []int{0}, nil},
		"a <- <n: b> a b <- .":                         {api.OK, 0, nil, nil},
		"a <- b b <- c c <- b / \"x\" d <- a":          {api.ErrLeft, 1, []int{1, 2}, nil},
		"a <- \"x\" ((\"y\" / &\"z\")+)":               {api.ErrLoop, 0, nil, []int{0}},
		"a <- ((\"x\"*)?)*":                            {api.ErrLoop, 0, nil, []int{0}},
		"a <- ([]*)* b <- \"\"?":                       {api.ErrLoop, 0, nil, []int{0}},
		"a <- (\"x\"*){9} b <- (b)* c <- ([] \"\")*":   {api.ErrLeft, 1, []int{1}, nil},
		"a <- \"\" / a":                                {api.ErrLeft, 0, []int{0}, nil},
		"a <- [] a":                                    {api.OK, 0, nil, nil},
		"a <- <n: a>":                                  {api.ErrLeft, 0, []int{0}, nil},
		"a <- b{0} c* b <- a c <- (!.){0,3} \"y\" / .": {api.OK, 0, nil, nil},
	} {
		g := read(t, text)
		rule, e := well.Where(g)
		if e != want.e || rule != want.rule || well.Check(g) != want.e || !same(well.Left(g), want.left) || !same(well.Loops(g), want.loops) {
			t.Errorf("%s: %v %v %v %v", text, rule, e, well.Left(g), well.Loops(g))
		}
	}
	g := read(t, "a <- \"x\"? b !c d e b <- \"\" c <- \"y\" / d d <- e{0} \"x\" e <- &a")
	for i, want := range [][]int{{1, 2, 3}, nil, {3}, nil, {0}} {
		if got := well.Lefts(g, i); !same(got, want) {
			t.Error(i, got)
		}
	}
}

// worked is a tree's lefts, by S5's words; f is its nodes' flows.
func worked(g api.Grammar, a api.Tree, at int, f []flow.Flow, out map[int]int) {
	n := a.Nodes[at]
	switch {
	case n.Kind == api.Rule:
		out[gram.Find(g, n.Text)]++
	case n.Kind == api.Rep && n.Max == 0:
	case n.Kind == api.Seq:
		for _, kid := range n.Kids {
			worked(g, a, kid, f, out)
			if !f[kid].Zero {
				break
			}
		}
	default:
		for _, kid := range n.Kids {
			worked(g, a, kid, f, out)
		}
	}
}

// held holds what is told of a grammar that may be against S5's words.
func held(t *testing.T, g api.Grammar) api.Errno {
	t.Helper()
	l, _ := flow.Of(g)
	n := len(g.Rules)
	by := make([]map[int]int, n)
	var left, loops []int
	for i, d := range g.Rules {
		f, _ := flow.Nodes(g, l, d.Body)
		by[i] = map[int]int{}
		worked(g, d.Body, d.Body.Root, f, by[i])
		var lefts []int
		for j := range n {
			if by[i][j] > 0 {
				lefts = append(lefts, j)
			}
		}
		if got := well.Lefts(g, i); !same(got, lefts) {
			t.Fatal("Lefts", i, got, lefts)
		}
		for _, node := range d.Body.Nodes {
			if node.Kind == api.Rep && node.Max == -1 && f[node.Kids[0]].Zero && (len(loops) == 0 || loops[len(loops)-1] != i) {
				loops = append(loops, i)
			}
		}
	}
	for i := range n {
		seen := map[int]int{}
		var on func(j int)
		on = func(j int) {
			for k := range by[j] {
				if seen[k]++; seen[k] == 1 {
					on(k)
				}
			}
		}
		if on(i); seen[i] > 0 {
			left = append(left, i)
		}
	}
	rule, want := 0, api.OK
	if len(left) > 0 {
		rule, want = left[0], api.ErrLeft
	} else if len(loops) > 0 {
		rule, want = loops[0], api.ErrLoop
	}
	got, e := well.Where(g)
	if e != want || got != rule || well.Check(g) != want || !same(well.Left(g), left) || !same(well.Loops(g), loops) {
		t.Fatal(got, e, "not", rule, want)
	}
	return want
}

func TestWords(t *testing.T) {
	s := sample.New(131)
	var told [48]int
	for range 6000 {
		g := s.Grammar(1+s.Below(5), 1+s.Below(4))
		before := gram.Copy(g)
		e := gram.May(g)
		if e != api.OK {
			if rule, f := well.Where(g); f != e || rule != 0 || well.Check(g) != e || len(well.Left(g))+len(well.Loops(g))+len(well.Lefts(g, 0)) != 0 {
				t.Fatal("of one that may not be", f, e)
			}
			continue
		}
		told[held(t, g)]++
		if well.Check(g) == api.OK {
			inlined(t, g)
			without(t, g)
		}
		if !gram.Same(before, g) {
			t.Fatal("changed")
		}
	}
	if told[api.OK] < 500 || told[api.ErrLeft] < 500 || told[api.ErrLoop] < 20 {
		t.Fatal(told)
	}
}

// inlined puts a rule's body where another one calls it.
func inlined(t *testing.T, g api.Grammar) {
	t.Helper()
	for i, d := range g.Rules {
		for j, into := range g.Rules {
			for at, n := range into.Body.Nodes {
				if i == j || n.Kind != api.Rule || n.Text != d.Name || at != into.Body.Root {
					continue
				}
				with, _ := gram.With(g, j, d.Body)
				if gram.May(with) == api.OK && well.Check(with) != api.OK {
					t.Fatal("inlined", g)
				}
			}
		}
	}
}

// without drops a rule that nobody else calls.
func without(t *testing.T, g api.Grammar) {
	t.Helper()
	for i, d := range g.Rules {
		called := len(g.Rules) == 1
		for j, by := range g.Rules {
			for _, n := range by.Body.Nodes {
				called = called || j != i && n.Kind == api.Rule && n.Text == d.Name
			}
		}
		if called {
			continue
		}
		drop, _ := gram.Drop(g, i)
		if well.Check(drop) != api.OK {
			t.Fatal("without a rule", g)
		}
	}
}

func TestLongRow(t *testing.T) {
	for _, n := range []int{2, 3, 33, 64} {
		var g api.Grammar
		names := sample.Names(n)
		for i, name := range names {
			g.Rules = append(g.Rules, api.Def{Name: name, Body: tree.Rule(names[(i+1)%n])})
		}
		if rule, e := well.Where(g); e != api.ErrLeft || rule != 0 || len(well.Left(g)) != n {
			t.Error(n, rule, e)
		}
		g.Rules[n-1].Body = tree.Text("x")
		if e := well.Check(g); e != api.OK || len(well.Left(g)) != 0 || !same(well.Lefts(g, 0), []int{1}) {
			t.Error(n, e)
		}
	}
}

func TestWrong(t *testing.T) {
	g := read(t, "a <- b b <- \"x\"")
	for _, i := range []int{-1, 2, 1 << 40} {
		if len(well.Lefts(g, i)) != 0 {
			t.Error(i)
		}
	}
	for _, bad := range []api.Grammar{{}, {Rules: make([]api.Def, 65)}, {Rules: []api.Def{g.Rules[0]}}, {Rules: []api.Def{g.Rules[1], g.Rules[1]}}, {Rules: []api.Def{{Name: "a", Body: tree.Text("")}}}} {
		if rule, e := well.Where(bad); e == api.OK || e != gram.May(bad) || rule != 0 || well.Check(bad) != e || len(well.Lefts(bad, 0))+len(well.Left(bad))+len(well.Loops(bad)) != 0 {
			t.Error(rule, e)
		}
	}
}
