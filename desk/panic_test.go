package desk_test

import (
	"math"
	"strings"
	"testing"

	"bonsai/api"
	"bonsai/check"
	"bonsai/cost"
	"bonsai/dead"
	"bonsai/desk"
	"bonsai/diff"
	"bonsai/expr"
	"bonsai/factor"
	"bonsai/first"
	"bonsai/flow"
	"bonsai/fuel"
	"bonsai/fuse"
	"bonsai/gram"
	"bonsai/inline"
	"bonsai/lex"
	"bonsai/log"
	"bonsai/merge"
	"bonsai/name"
	"bonsai/optim"
	"bonsai/pack"
	"bonsai/parse"
	"bonsai/path"
	"bonsai/pred"
	"bonsai/print"
	"bonsai/prune"
	"bonsai/quote"
	"bonsai/rail"
	"bonsai/reach"
	"bonsai/sample"
	"bonsai/set"
	"bonsai/span"
	"bonsai/table"
	"bonsai/tree"
	"bonsai/well"
)

func number(s *sample.Source) int {
	switch s.Below(5) {
	case 0:
		return int(s.Next())
	case 1:
		return []int{math.MinInt, math.MaxInt, -1, 1 << 31, 1 << 40, 1<<40 + 1, 65536, 65537, 4096, 4097}[s.Below(10)]
	}
	return s.Below(6) - 2
}

func numbers(s *sample.Source) []int {
	var out []int
	for range s.Below(4) {
		out = append(out, number(s))
	}
	return out
}

func odd(s *sample.Source) api.Tree {
	a := s.Tree(1+s.Below(4), sample.Names(3))
	for range s.Below(3) {
		a = s.Broken(a)
		if len(a.Nodes) == 0 {
			return a
		}
		n := &a.Nodes[s.Below(len(a.Nodes))]
		switch s.Below(6) {
		case 0:
			n.Kids = numbers(s)
		case 1:
			n.Min, n.Max = number(s), number(s)
		case 2:
			n.Kind = uint8(s.Next())
		}
	}
	return a
}

func oddGrammar(s *sample.Source) api.Grammar {
	g := s.Grammar(1+s.Below(4), 3)
	switch s.Below(4) {
	case 0:
		return g
	case 1:
		g.Rules[s.Below(len(g.Rules))].Name = s.Bytes(s.Below(3))
	case 2:
		g.Rules[s.Below(len(g.Rules))].Body = odd(s)
	}
	if s.OneIn(9) {
		g.Rules = append(g.Rules, make([]api.Def, s.Below(70))...)
	}
	return g
}

func oddText(s *sample.Source) string {
	switch s.Below(4) {
	case 0:
		return s.Bytes(s.Below(12))
	case 1:
		return s.Word(s.Below(30), "ab<-/&!?*+().:{1,}[]^\\\"x \n#")
	case 2:
		return print.Grammar(s.Grammar(1+s.Below(3), 3))
	}
	return []string{"run dead:3", "cost rounds:2", "run", "cost only:dead", "mark", "1.1 0/0 @0", "match 3\na 0 1\n", "fail\n"}[s.Below(8)]
}

func oddStep(s *sample.Source) api.Step {
	return api.Step{Pass: uint8(s.Below(9)), Way: uint8(s.Below(12)), Rule: number(s), Path: numbers(s), At: number(s)}
}

func oddOutcome(s *sample.Source) api.Outcome {
	o := api.Outcome{OK: !s.OneIn(4), To: number(s)}
	for range s.Below(4) {
		o.Captures = append(o.Captures, api.Capture{Name: oddText(s), From: number(s), To: number(s)})
	}
	return o
}

// TestNothingPanics hands to each call whatever there is: each ends, and none panics.
func TestNothingPanics(t *testing.T) {
	s := sample.New(331)
	for range 3000 {
		a, b, g, h := odd(s), odd(s), oddGrammar(s), oddGrammar(s)
		n, m, text, more := number(s), number(s), oddText(s), oddText(s)
		texts(s, text, more, n, m)
		trees(a, b, s.Set(), text, n, m, numbers(s))
		grammars(g, h, a, n, m, text, numbers(s), oddStep(s))
		outcomes(oddOutcome(s), oddOutcome(s), text, more, n)
		showings(s, g, h, n, m)
	}
}

func texts(s *sample.Source, text, more string, n, m int) {
	name.May(text)
	name.Take(text)
	name.Num(text, n)
	name.Show(n)
	name.Compare(text, more)
	name.Free(text, []string{text, more})
	quote.Unliteral(quote.Literal(text))
	quote.Unliteral(text)
	quote.Unclass(text)
	quote.Class(set.Of(text))
	set.Runs(set.Of(text))
	words, _, _ := lex.Words(text)
	words = append(words, lex.Word{Kind: uint8(s.Next()), At: n, To: m, Text: more, Low: n, High: m})
	lex.May(words[len(words)-1])
	lex.Join(words)
	lex.Show(words[0])
	lex.Same(words, words[1:])
	parse.Grammar(text)
	parse.Expr(text)
	parse.Names(text)
	log.Decode(text)
	log.Read(text)
	span.Parse(text)
	optim.Parse(text)
	desk.Read(text)
	desk.Optimise(text, more)
	desk.Check(text, more, s.Bytes(s.Below(9)))
	desk.Why(more, text, s.Bytes(s.Below(9)))
	desk.Match(text, more, n)
	desk.Enough(text, more)
	desk.Diff(text, more)
	desk.Draw(text)
}

func trees(a, b api.Tree, bytes api.Bytes, text string, n, m int, l []int) {
	tree.May(a)
	tree.Fits(api.Node{Kind: uint8(n), Min: n, Max: m, Text: text, Set: bytes}, m)
	tree.Of(api.Node{Kind: uint8(n), Min: n, Max: m, Text: text}, []api.Tree{a, b})
	tree.Clean(a)
	tree.Same(a, b)
	tree.Size(a)
	tree.Depth(a)
	tree.Walk(a)
	tree.Sub(a, n)
	tree.Kids(a)
	tree.Root(a)
	expr.Make(a)
	expr.Normal(a)
	expr.Seq([]api.Tree{a, b})
	expr.Choice([]api.Tree{a, b})
	expr.Rep(a, n, m)
	expr.Cap(text, a)
	expr.Parts(a)
	expr.Ways(a)
	expr.Head(a)
	expr.Tail(a)
	print.Count(n, m)
	print.Tree(a)
	print.Def(api.Def{Name: text, Body: a})
	path.At(a, l)
	path.Put(a, l, b)
	factor.Common(a, b)
	merge.Two(uint8(n), a, b)
	merge.Bytes(a)
	cost.Tree(a)
	rail.Draw(a)
}

func grammars(g, h api.Grammar, a api.Tree, n, m int, text string, l []int, s api.Step) {
	gram.Find(g, text)
	gram.Nodes(g)
	gram.Same(g, h)
	gram.With(g, n, a)
	gram.Drop(g, n)
	print.Size(g)
	flows, _ := flow.Of(g)
	flow.Tree(h, flows, a)
	firsts, _ := first.Of(g)
	first.Tree(h, firsts, a)
	reach.Calls(g, n)
	reach.From(g, n)
	reach.Self(g, n)
	reach.Useless(g)
	reach.Rounds(g)
	well.Where(g)
	well.Lefts(g, n)
	well.Left(g)
	well.Loops(g)
	tab, _ := table.New(g, text)
	tab.Outcome(n, m)
	tab.Count(n, m)
	tab.Expr(a, n)
	tab.Known()
	pack.Run(g, n, text, m, 1000)
	pack.Run(g, 0, text, 0, n)
	fuel.Weight(g)
	fuel.Bound(n, m, n)
	fuel.Closer(g, n, m)
	fuel.Enough(g, text)
	path.Find(g, path.Place{Rule: n, Path: l})
	path.With(g, path.Place{Rule: n, Path: l}, a)
	path.All(g)
	inline.Calls(g, n)
	dead.Idle(g)
	pred.Count(g)
	fuse.Weight(g)
	prune.Keep(g, l)
	check.Step(g, s)
	for pass := range uint8(9) {
		s.Pass = pass
		optim.Steps(g, pass)
		optim.Do(g, s)
		check.Step(g, s)
	}
	cost.Compare(g, h)
	check.Goes(g, h, []log.Item{{Step: s}, {Mark: true, Step: s}})
	diff.Apply(g, diff.Of(g, h))
	diff.Apply(g, []diff.Edit{{Kind: uint8(n)}, {Kind: diff.Insert, Rule: api.Def{Name: text, Body: a}}})
	diff.Report(g, h)
	rail.Sheet(g)
}

func outcomes(a, b api.Outcome, input, name string, n int) {
	span.May(a, n)
	span.Same(a, b)
	span.Join(a, b)
	span.Cap(name, n, a)
	span.Shift(a, n)
	span.Texts(a, input, name)
	span.Show(a)
}

func showings(s *sample.Source, g, h api.Grammar, n, m int) {
	p := complex(math.Float64frombits(s.Next()), math.Float64frombits(s.Next()))
	d := rail.Drawing{Width: n, Up: m, Strokes: [][]complex128{{p, 0}, nil}, Labels: []rail.Label{{At: p, Text: "x\n"}}}
	rail.Show(rail.Turn(rail.Shift(d, p)))
	cost.Sum(p)
	x := log.Item{Mark: s.OneIn(3), Step: oddStep(s)}
	log.Show(x)
	log.Encode([]log.Item{x})
	log.Segments([]log.Item{x, x})
	sc := optim.Script{Cost: s.OneIn(2), Rounds: n, Budget: m, Only: []uint8{uint8(n), uint8(m)}, Words: []optim.Word{{Pass: uint8(n), Budget: m}}}
	optim.Show(sc)
	optim.Run(g, sc)
	sc = optim.Script{Words: []optim.Word{{Pass: uint8(s.Below(9)), Budget: s.Below(4)}}}
	optim.Run(h, sc)
	strings.Clone(optim.Name(uint8(n)))
}
