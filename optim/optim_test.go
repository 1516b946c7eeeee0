package optim_test

import (
	"reflect"
	"slices"
	"strings"
	"testing"

	"bonsai/api"
	"bonsai/cost"
	"bonsai/gram"
	"bonsai/log"
	"bonsai/name"
	"bonsai/optim"
	"bonsai/parse"
	"bonsai/print"
	"bonsai/redex"
	"bonsai/sample"
	"bonsai/span"
	"bonsai/table"
	"bonsai/well"
)

func read(t *testing.T, text string) api.Grammar {
	t.Helper()
	g, _, e := parse.Grammar(text)
	if e != api.OK || gram.May(g) != api.OK {
		t.Fatal(text, e)
	}
	return g
}

func names() []string {
	return []string{"", "inline", "dead", "factor", "pred", "merge", "fuse", "prune"}
}

func all() []uint8 { return []uint8{1, 2, 3, 4, 5, 6, 7} }

func run(l ...int) optim.Script {
	var s optim.Script
	for i := 0; i < len(l); i += 2 {
		s.Words = append(s.Words, optim.Word{Pass: uint8(l[i]), Budget: l[i+1]})
	}
	return s
}

func byCost(rounds, budget int, only ...uint8) optim.Script {
	return optim.Script{Cost: true, Rounds: rounds, Budget: budget, Only: only}
}

func same(a, b optim.Script) bool {
	return a.Cost == b.Cost && a.Rounds == b.Rounds && a.Budget == b.Budget && slices.Equal(a.Words, b.Words) && slices.Equal(a.Only, b.Only)
}

func TestParse(t *testing.T) {
	for text, want := range map[string]optim.Script{
		"run": {}, "  run  ": {}, "run dead:3 prune:1": run(2, 3, 7, 1), " run   dead:0 dead:1000 ": run(2, 0, 2, 1000), "run inline:1 dead:2 factor:3 pred:4 merge:5 fuse:6 prune:7": run(1, 1, 2, 2, 3, 3, 4, 4, 5, 5, 6, 6, 7, 7),
		"cost": byCost(10, 10, all()...), "cost rounds:-3": byCost(0, 10, all()...), "cost rounds:-0": byCost(0, 10, all()...), "cost rounds:0": byCost(0, 10, all()...), "cost rounds:-99999999999999999999999": byCost(0, 10, all()...), "cost budget:1": byCost(10, 1, all()...), "cost rounds:2 budget:1000 only:dead": byCost(2, 1000, 2), "cost only:prune,dead rounds:1": byCost(1, 10, 2, 7), "cost only:fuse,merge,pred,factor,dead,inline,prune": byCost(10, 10, all()...),
		"cost rounds:1000 budget:3 only:dead": byCost(1000, 3, 2), "cost rounds:0 budget:1000": byCost(0, 1000, all()...), "run fuse:1000 fuse:1000 fuse:1000 fuse:1000 fuse:91": run(6, 1000, 6, 1000, 6, 1000, 6, 1000, 6, 91), "cost rounds:-1001": byCost(0, 10, all()...), "cost budget:584 rounds:1": byCost(1, 584, all()...),
	} {
		s, at, e := optim.Parse(text)
		if e != api.OK || at != 0 || !same(s, want) || !optim.May(s) {
			t.Errorf("%q: %v %v %v", text, s, at, e)
		}
	}
	for text, want := range map[string]struct {
		at int
		e  api.Errno
	}{
		"": {0, api.ErrOption}, "   ": {3, api.ErrOption}, "Run": {0, api.ErrOption}, "runs": {0, api.ErrOption}, "dead:3": {0, api.ErrOption}, "run:3": {0, api.ErrOption}, " foo": {1, api.ErrOption}, "\trun": {0, api.ErrOption}, "run\tdead:3": {0, api.ErrOption}, "cost:": {0, api.ErrOption},
		"run deal:3": {4, api.ErrPass}, "run dead": {4, api.ErrOption}, "run deal": {4, api.ErrOption}, "run :3": {4, api.ErrPass}, "run :": {4, api.ErrOption}, "run dead:": {4, api.ErrOption}, "run dead:x": {4, api.ErrOption}, "run deal:x": {4, api.ErrOption}, "run dead:1001": {4, api.ErrOption}, "run deal:1001": {4, api.ErrOption}, "run deal:1000": {4, api.ErrPass}, "run dead:03": {4, api.ErrOption}, "run dead:-1": {4, api.ErrOption}, "run dead:3:3": {4, api.ErrOption}, "run dead:3,": {4, api.ErrOption}, "run Dead:3": {4, api.ErrPass}, "run run": {4, api.ErrOption}, "run cost": {4, api.ErrOption}, "run dead:3\tprune:3": {4, api.ErrOption}, "run dead:3\n": {4, api.ErrOption},
		"run dead:3  deal:3 x": {12, api.ErrPass}, "run dead:3  x deal:3": {12, api.ErrOption}, "run rounds:3": {4, api.ErrPass}, "run only:dead": {4, api.ErrOption},
		"cost dead:3": {5, api.ErrOption}, "cost rounds": {5, api.ErrOption}, "cost only": {5, api.ErrOption}, "cost rounds:": {5, api.ErrOption}, "cost rounds:1001": {5, api.ErrOption}, "cost rounds:x": {5, api.ErrOption}, "cost rounds:-": {5, api.ErrOption}, "cost rounds:--1": {5, api.ErrOption}, "cost rounds:-01": {5, api.ErrOption}, "cost rounds:-x": {5, api.ErrOption}, "cost rounds:01": {5, api.ErrOption}, "cost rounds:-1 rounds:2": {15, api.ErrOption}, "cost rounds:2 rounds:2": {14, api.ErrOption},
		"cost budget:0": {5, api.ErrOption}, "cost budget:-1": {5, api.ErrOption}, "cost budget:1001": {5, api.ErrOption}, "cost budget:": {5, api.ErrOption}, "cost budget:2 budget:2": {14, api.ErrOption}, "cost :3": {5, api.ErrOption}, "cost :": {5, api.ErrOption}, "cost Rounds:3": {5, api.ErrOption}, "cost cost": {5, api.ErrOption},
		"cost only:dead,dead": {5, api.ErrOption}, "cost only:": {5, api.ErrPass}, "cost only:deal": {5, api.ErrPass}, "cost only:dead,": {5, api.ErrPass}, "cost only:,dead": {5, api.ErrPass}, "cost only:dead,,prune": {5, api.ErrPass}, "cost only:,": {5, api.ErrOption}, "cost only:dead,,prune,": {5, api.ErrOption}, "cost only:deal,deal": {5, api.ErrOption}, "cost only:deal,dead,dead": {5, api.ErrOption}, "cost only:dead:3": {5, api.ErrPass}, "cost only:dead only:prune": {15, api.ErrOption}, "cost only:dead only:deal": {15, api.ErrOption}, "cost only:dead only:": {15, api.ErrOption}, "cost only:dead, prune": {5, api.ErrPass},
		"run fuse:1000 fuse:1000 fuse:1000 fuse:1000 fuse:92": {51, api.ErrOption}, "run fuse:1000 fuse:1000 fuse:1000 fuse:1000 fuse:92 deal:1": {52, api.ErrPass}, "cost rounds:1000": {16, api.ErrOption}, "cost rounds:1000 budget:4 only:dead  ": {37, api.ErrOption}, "cost budget:585 rounds:1": {-1, api.OK}, "cost budget:586 rounds:1": {24, api.ErrOption},
		"run" + strings.Repeat(" dead:0", 4096): {-1, api.OK}, "run" + strings.Repeat(" dead:0", 4097): {3 + 7*4097, api.ErrOption}, strings.Repeat(" ", 65537): {65536, api.ErrTooLarge}, "x" + strings.Repeat(" ", 65536): {65536, api.ErrTooLarge}, strings.Repeat(" ", 65536): {65536, api.ErrOption}, "run" + strings.Repeat(" ", 65533): {-1, api.OK},
	} {
		s, at, e := optim.Parse(text)
		if e != want.e || want.at >= 0 && at != want.at || e != api.OK && !same(s, optim.Script{}) {
			t.Errorf("%.60q: %v %v, not %v", text, at, e, want)
		}
	}
}

func TestMayAndShow(t *testing.T) {
	many := run()
	for range 4096 {
		many.Words = append(many.Words, optim.Word{Pass: 2})
	}
	more := optim.Script{Words: append(append([]optim.Word{}, many.Words...), optim.Word{Pass: 2})}
	for i, row := range []struct {
		s    optim.Script
		want string
	}{
		{run(), "run"}, {run(2, 3, 7, 1), "run dead:3 prune:1"}, {run(1, 0, 6, 1000), "run inline:0 fuse:1000"}, {run(0, 1), ""}, {run(8, 1), ""}, {run(255, 1), ""}, {run(1, -1), ""}, {run(1, 1001), ""}, {optim.Script{Rounds: 1}, ""}, {optim.Script{Budget: 1}, ""}, {optim.Script{Only: []uint8{1}}, ""}, {optim.Script{Only: []uint8{}}, "run"}, {run(6, 1000, 6, 1000, 6, 1000, 6, 1000, 6, 92), ""},
		{byCost(10, 10, all()...), "cost rounds:10 budget:10 only:inline,dead,factor,pred,merge,fuse,prune"}, {byCost(0, 1, 4), "cost rounds:0 budget:1 only:pred"}, {byCost(0, 0, 4), ""}, {byCost(0, 1001, 4), ""}, {byCost(-1, 1, 4), ""}, {byCost(1001, 1, 4), ""}, {byCost(1000, 1, 4), "cost rounds:1000 budget:1 only:pred"}, {byCost(1, 1), ""}, {byCost(1, 1, 0), ""}, {byCost(1, 1, 8), ""}, {byCost(1, 1, 2, 1), ""}, {byCost(1, 1, 2, 2), ""}, {byCost(1, 1, 1, 2, 7), "cost rounds:1 budget:1 only:inline,dead,prune"}, {byCost(1000, 4, 2), ""}, {optim.Script{Cost: true, Rounds: 1, Budget: 1, Only: all(), Words: []optim.Word{{Pass: 1}}}, ""}, {byCost(1, 585, all()...), "cost rounds:1 budget:585 only:inline,dead,factor,pred,merge,fuse,prune"}, {byCost(1, 586, all()...), ""}, {byCost(1<<40, 1<<40, 1), ""},
		{optim.Script{Cost: true}, ""}, {many, "run" + strings.Repeat(" dead:0", 4096)}, {more, ""},
	} {
		if got := optim.Show(row.s); got != row.want || optim.May(row.s) != (row.want != "") {
			t.Errorf("%d: %.80q", i, got)
		}
		if back, at, e := optim.Parse(row.want); row.want != "" && (e != api.OK || at != 0 || !same(back, row.s)) {
			t.Errorf("%d: %v", i, back)
		}
		if !optim.May(row.s) {
			out, l, e := optim.Run(read(t, "a <- ."), row.s)
			if e != api.ErrArg || len(out.Rules)+len(l) != 0 {
				t.Error(i, e)
			}
			if out, l, e = optim.Run(read(t, "a <- a"), row.s); e != api.ErrLeft || len(out.Rules)+len(l) != 0 {
				t.Error(i, e)
			}
		}
	}
	for n, want := range names() {
		if optim.Name(uint8(n)) != want {
			t.Error(n)
		}
	}
	if optim.Name(8) != "" || optim.Name(255) != "" {
		t.Error("a number that is none's")
	}
}

// script is a script that may be.
func script(s *sample.Source) optim.Script {
	if s.OneIn(2) {
		var out optim.Script
		for range s.Below(5) {
			out.Words = append(out.Words, optim.Word{Pass: uint8(1 + s.Below(7)), Budget: s.Below(6)})
		}
		return out
	}
	out := byCost(s.Below(5), 1+s.Below(5))
	for n := uint8(1); n <= 7; n++ {
		if !s.OneIn(3) || n == 7 && len(out.Only) == 0 {
			out.Only = append(out.Only, n)
		}
	}
	return out
}

// worked is what S8 says of a grammar, and a script.
func worked(g api.Grammar, s optim.Script) (api.Grammar, []log.Item) {
	var l []log.Item
	do := func(pass uint8, budget int, most bool) int {
		for n := range budget {
			found := false
			for _, one := range redex.Steps(g, pass) {
				next, _ := redex.Do(g, one)
				if most && cost.Total(next) > cost.Total(g) {
					continue
				}
				g, found = next, true
				l = append(l, log.Item{Step: one})
				break
			}
			if !found {
				return n
			}
		}
		return budget
	}
	for _, w := range s.Words {
		l = append(l, log.Item{Mark: true})
		do(w.Pass, w.Budget, false)
	}
	for range s.Rounds {
		l = append(l, log.Item{Mark: true})
		done := 0
		for _, pass := range s.Only {
			done += do(pass, s.Budget, true)
		}
		if done == 0 {
			break
		}
	}
	return g, l
}

func TestAgainstWords(t *testing.T) {
	s := sample.New(291)
	tried, items := 0, 0
	for range 1200 {
		g, sc := s.Grammar(1+s.Below(4), 1+s.Below(4)), script(s)
		before := gram.Copy(g)
		out, l, e := optim.Run(g, sc)
		if e != well.Check(g) || e != api.OK && len(out.Rules)+len(l) > 0 {
			t.Fatal(e)
		}
		if e != api.OK {
			continue
		}
		tried++
		items += len(l)
		want, steps := worked(g, sc)
		if !gram.Same(out, want) || !log.Same(l, steps) {
			t.Fatal(print.Grammar(g), optim.Show(sc), print.Grammar(out), l, print.Grammar(want), steps)
		}
		if _, e := log.Encode(l); e != api.OK || well.Check(out) != api.OK || sc.Cost && cost.Compare(out, g) > 0 {
			t.Fatal("the log may be, what is told is well-formed")
		}
		if back, at, e := optim.Parse(optim.Show(sc)); e != api.OK || at != 0 || !same(back, sc) {
			t.Fatal("back", optim.Show(sc))
		}
		input := s.Input(5)
		one, _ := table.New(g, input)
		two, _ := table.New(out, input)
		x, _ := one.Outcome(0, 0)
		if y, e := two.Outcome(0, 0); e != api.OK || !span.Same(x, y) {
			t.Fatal("meaning")
		}
		for i := range out.Rules {
			out.Rules[i].Body.Nodes[0] = api.Node{Kind: 99}
		}
		if !gram.Same(g, before) {
			t.Fatal("changed, or memory is shared")
		}
	}
	if tried < 300 || items < 800 {
		t.Fatal(tried, items)
	}
}

func TestExamples(t *testing.T) {
	for _, row := range []struct {
		from, script, to, lines string
	}{
		{"a <- b \"x\" b b <- \"y\"", "run inline:1", "a <- \"y\" \"x\" b b <- \"y\"", "mark, 1.1 0/0 @0"}, {"a <- b b <- \"x\"", "run inline:9 prune:9", "a <- \"x\"", "mark, 1.1 0 @0, mark, 7.1 1 @0"}, {"a <- \"x\" \"b\" / \"x\" \"c\"", "run factor:9", "a <- \"x\" (\"b\" / \"c\")", "mark, 3.2 0 @0"}, {"a <- [a] / \"b\" / \"c\"", "cost", "a <- [a-c]", "mark, 5.1 0 @0, 5.1 0 @0, mark"},
		{"a <- !!\"x\" \"x\"", "run pred:9", "a <- \"x\"", "mark, 4.1 0/0 @0, 4.8 0 @0"}, {"a <- \"x\"* \"x\"{0,3}", "run fuse:9", "a <- \"x\"*", "mark, 6.3 0 @0"}, {"a <- .", "run", "a <- .", ""}, {"a <- . / .", "cost rounds:0", "a <- . / .", ""}, {"a <- . / .", "run dead:3 factor:0 fuse:3", "a <- . / .", "mark, mark, mark"}, {"a <- .", "cost rounds:5", "a <- .", "mark"}, {"a <- . / . / .", "cost rounds:2 budget:1 only:factor,prune", "a <- .", "mark, 3.1 0 @0, mark, 3.1 0 @0"},
		{"a <- b b b b <- . .", "cost", "a <- .{6}", ""},
	} {
		s, _, e := optim.Parse(row.script)
		if e != api.OK {
			t.Fatal(row.script)
		}
		out, l, e := optim.Run(read(t, row.from), s)
		var lines []string
		for _, x := range l {
			lines = append(lines, log.Show(x))
		}
		if e != api.OK || row.lines != "" && strings.Join(lines, ", ") != row.lines || row.lines != "" && !gram.Same(out, read(t, row.to)) {
			t.Error(row, print.Grammar(out), lines, e)
		}
	}
}

func TestStepsAndDo(t *testing.T) {
	s := sample.New(292)
	for range 400 {
		g := s.Grammar(1+s.Below(4), 1+s.Below(4))
		e := well.Check(g)
		for n := range 256 {
			pass := uint8(n)
			if n > 9 && n < 250 {
				continue
			}
			steps := optim.Steps(g, pass)
			if e != api.OK || n == 0 || n > 7 {
				out, f := optim.Do(g, api.Step{Pass: pass, Way: 1})
				if len(steps) > 0 || e != api.OK && f != e || e == api.OK && f != api.ErrStep || len(out.Rules) > 0 {
					t.Fatal(n, steps, f)
				}
				continue
			}
			if !slices.EqualFunc(steps, redex.Steps(g, pass), redex.Same) {
				t.Fatal("Steps", names()[n])
			}
			for _, one := range steps {
				want, _ := redex.Do(g, one)
				if out, f := optim.Do(g, one); f != api.OK || !gram.Same(out, want) {
					t.Fatal("Do", one)
				}
			}
		}
	}
}

func TestLong(t *testing.T) {
	text := ""
	for i := range 40 {
		text += "r" + name.Show(i) + " <- [a-f]{1} \"x\" / \"xy\" !!\"z\" r" + name.Show((i+1)%40) + "? / \"xz\"\n"
	}
	g := read(t, text)
	s, _, _ := optim.Parse("cost rounds:20")
	out, l, e := optim.Run(g, s)
	if e != api.OK || cost.Compare(out, g) >= 0 || len(l) < 50 {
		t.Error(e, len(l))
	}
	again, m, _ := optim.Run(g, s)
	if !gram.Same(out, again) || !reflect.DeepEqual(l, m) {
		t.Error("not the same twice")
	}
}
