package pack_test

import (
	"strings"
	"testing"

	"bonsai/api"
	"bonsai/expr"
	"bonsai/gram"
	"bonsai/pack"
	"bonsai/parse"
	"bonsai/sample"
	"bonsai/span"
	"bonsai/tree"
	"bonsai/well"
)

func read(t *testing.T, text string) api.Grammar {
	t.Helper()
	g, _, e := parse.Grammar(text)
	if e != api.OK {
		t.Fatal(text, e)
	}
	return g
}

func TestExamples(t *testing.T) {
	for i, row := range []struct {
		text, input string
		fuel        int
		want        string
		used        int
		e           api.Errno
	}{
		{"a <- \"x\" a / \"\"", "xx", 1000, "match 2\n", 23, api.OK}, {"a <- \"x\" a / \"\"", "xx", 23, "match 2\n", 23, api.OK}, {"a <- \"x\" a / \"\"", "xx", 22, "", 0, api.ErrFuel}, {"a <- \"x\"", "x", 0, "", 0, api.ErrFuel},
		{"b <- b", "", 9, "", 0, api.ErrLeft}, {"b <- b", "", 1, "", 0, api.ErrLeft}, {"b <- b", "", 0, "", 0, api.ErrFuel}, {"b <- b \"\" / c c <- b", "", 3, "", 0, api.ErrLeft}, {"b <- c / \"x\" c <- b", "", 2, "", 0, api.ErrFuel}, {"b <- c / \"x\" c <- b", "", 3, "", 0, api.ErrLeft},
		{"c <- (\"\")*", "", 9, "", 0, api.ErrLoop}, {"c <- (\"\")*", "", 3, "", 0, api.ErrLoop}, {"c <- (\"\")*", "", 2, "", 0, api.ErrFuel}, {"c <- (\"x\"?)*", "x", 9, "", 0, api.ErrLoop}, {"c <- (\"x\"?)*", "x", 8, "", 0, api.ErrFuel},
		{"a <- \"x\"", "x", 1, "match 1\n", 1, api.OK}, {"a <- \"x\"", "y", 1, "fail\n", 1, api.OK}, {"a <- a{0}", "x", 1, "match 0\n", 1, api.OK}, {"a <- <n: <n: \"x\">>", "x", 9, "match 1\nn 0 1\nn 0 1\n", 7, api.OK}, {"a <- <n: <n: \"x\">>", "x", 6, "", 0, api.ErrFuel},
		{"a <- b b b <- \"\"", "", 99, "match 0\n", 1 + 2 + 1 + 4, api.OK}, {"a <- \"x\"{3}", "xxx", 99, "match 3\n", 1 + 3 + 3, api.OK}, {"a <- \"x\"{3}", "xx", 99, "fail\n", 1 + 3 + 3, api.OK}, {"a <- \"\"{3}", "xx", 99, "match 0\n", 1 + 1 + 3, api.OK}, {"a <- \"x\"*", "xx", 99, "match 2\n", 1 + 3 + 3, api.OK},
		{"a <- &<n: \"x\"> !\"y\" .", "x", 99, "match 1\n", 7 + 6, api.OK}, {"a <- <n: <m: \"\">{99}{0,99}{9}>", "", 1 << 20, "", 0, api.ErrTooLarge}, {"a <- <n: <m: \"\">{99}{0,99}{9}>", "", 300, "", 0, api.ErrTooLarge}, {"a <- <n: <m: \"\">{99}{0,99}{6}>", "", 58807 + 210, "", 0, api.ErrFuel},
	} {
		o, used, e := pack.Match(read(t, row.text), row.input, row.fuel)
		s, _ := span.Show(o)
		if e != row.e || used != row.used || row.e == api.OK && s != row.want || row.e != api.OK && !span.Same(o, span.Fail()) {
			t.Errorf("%d: %s: %q %d %v", i, row.text, s, used, e)
		}
	}
}

// spot is a node of a rule's body at a place.
type spot struct{ rule, node, at int }

// walker works out by calls within calls, and burns fuel as it goes.
type walker struct {
	g     api.Grammar
	input string
	fuel  int
	used  int
	done  map[spot]*api.Outcome
}

type halt struct{ e api.Errno }

func (w *walker) burn(n int) {
	if w.used+n > w.fuel {
		panic(halt{api.ErrFuel})
	}
	w.used += n
}

func (w *walker) work(s spot) api.Outcome {
	w.done[s] = nil
	w.burn(1)
	n := w.g.Rules[s.rule].Body.Nodes[s.node]
	ask := func(k spot) api.Outcome {
		o, begun := w.done[k]
		switch {
		case begun && o == nil:
			panic(halt{api.ErrLeft})
		case !begun:
			w.work(k)
			o = w.done[k]
		}
		w.burn(1)
		return *o
	}
	kid := func(i, at int) api.Outcome { return ask(spot{s.rule, n.Kids[i], at}) }
	o := api.Outcome{OK: true, To: s.at}
	switch n.Kind {
	case api.Set:
		o = span.Fail()
		if s.at < len(w.input) && n.Set[w.input[s.at]/64]>>(w.input[s.at]%64)&1 == 1 {
			o = span.At(s.at + 1)
		}
	case api.Text:
		o = span.Fail()
		if strings.HasPrefix(w.input[s.at:], n.Text) {
			o = span.At(s.at + len(n.Text))
		}
	case api.Rule:
		r := gram.Find(w.g, n.Text)
		o = ask(spot{r, w.g.Rules[r].Body.Root, s.at})
	case api.Seq:
		for i := 0; i < len(n.Kids) && o.OK; i++ {
			o = span.Join(o, kid(i, o.To))
		}
	case api.Choice:
		o = span.Fail()
		for i := 0; i < len(n.Kids) && !o.OK; i++ {
			o = kid(i, s.at)
		}
	case api.Rep:
		for i := 0; i != n.Max; i++ {
			next := kid(0, o.To)
			if !next.OK {
				if i < n.Min {
					o = span.Fail()
				}
				break
			}
			if n.Max < 0 && next.To == o.To {
				panic(halt{api.ErrLoop})
			}
			o = span.Join(o, next)
		}
	case api.And, api.Not:
		if kid(0, s.at).OK != (n.Kind == api.And) {
			o = span.Fail()
		}
	case api.Cap:
		o = span.Cap(n.Text, s.at, kid(0, s.at))
	}
	w.done[s] = &o
	return o
}

func walked(g api.Grammar, rule int, input string, at, fuel int) (o api.Outcome, used int, e api.Errno) {
	w := &walker{g: g, input: input, fuel: fuel, done: map[spot]*api.Outcome{}}
	defer func() {
		if h, is := recover().(halt); is {
			o, used, e = span.Fail(), 0, h.e
		}
	}()
	o = w.work(spot{rule, g.Rules[rule].Body.Root, at})
	w.burn(len(o.Captures))
	return o, w.used, api.OK
}

func TestAgainstWords(t *testing.T) {
	s := sample.New(161)
	var told [48]int
	for range 4000 {
		g := s.Grammar(1+s.Below(4), 1+s.Below(4))
		if gram.May(g) != api.OK {
			continue
		}
		input := s.Input(6)
		rule, at := s.Below(len(g.Rules)), s.Below(len(input)+1)
		before := gram.Copy(g)
		want, used, e := walked(g, rule, input, at, 1<<20)
		o, u, f := pack.Run(g, rule, input, at, 1<<20)
		told[f]++
		if f != e || u != used || !span.Same(o, want) {
			t.Fatal(o, u, f, "not", want, used, e)
		}
		fuel := s.Below(60)
		want, used, e = walked(g, rule, input, at, fuel)
		o, u, f = pack.Run(g, rule, input, at, fuel)
		told[f]++
		if f != e || u != used || !span.Same(o, want) {
			t.Fatal("fuel", fuel, o, u, f, "not", want, used, e)
		}
		if !gram.Same(before, g) {
			t.Fatal("changed")
		}
		if o, u, f := pack.Run(g, 0, input, 0, 1<<30); true {
			m, v, h := pack.Match(g, input, 1<<30)
			if f != h || u != v || !span.Same(o, m) {
				t.Fatal("Match")
			}
		}
		if well.Check(g) == api.OK {
			wellFormed(t, g, rule, input, at)
		}
	}
	for _, e := range []api.Errno{api.OK, api.ErrFuel, api.ErrLeft, api.ErrLoop} {
		if told[e] < 1 {
			t.Error("too seldom:", e, told[e])
		}
	}
}

func wellFormed(t *testing.T, g api.Grammar, rule int, input string, at int) {
	t.Helper()
	want, known := sample.NewOracle(g, input).Rule(rule, at)
	o, used, e := pack.Run(g, rule, input, at, api.MaxFuel)
	if !known || e != api.OK || !span.Same(o, want) || !span.May(o, len(input)) || o.OK && o.To < at {
		t.Fatal("derived", o, e, want)
	}
	if again, u, e := pack.Run(g, rule, input, at, used); e != api.OK || u != used || !span.Same(again, o) {
		t.Fatal("just enough", used, u, e)
	}
	if again, u, e := pack.Run(g, rule, input, at, used-1); e != api.ErrFuel || u != 0 || !span.Same(again, span.Fail()) {
		t.Fatal("less than enough", used, u, e)
	}
	moved, _ := span.Shift(o, 3)
	if again, u, e := pack.Run(g, rule, "zzz"+input, at+3, api.MaxFuel); e != api.OK || u != used || !span.Same(again, moved) {
		t.Fatal("moved", again, e)
	}
}

func TestLong(t *testing.T) {
	input := strings.Repeat("x", 4096)
	g := read(t, "a <- <k: . a?>")
	o, used, e := pack.Match(g, input, api.MaxFuel)
	if e != api.OK || len(o.Captures) != 4096 || o.To != 4096 || !span.May(o, 4096) {
		t.Error(len(o.Captures), used, e)
	}
	if _, u, e := pack.Match(g, input, used-1); e != api.ErrFuel || u != 0 {
		t.Error(e)
	}
	var deep api.Grammar
	names := sample.Names(64)
	for i := range names {
		body := "(((((((((((" + names[(i+1)%64] + "?)?)?)?)?)?)?)?)?)?)?)?"
		if i == 63 {
			body = ". " + names[0] + " / <n: !.>"
		}
		x, _, _ := parse.Expr(body)
		deep.Rules = append(deep.Rules, api.Def{Name: names[i], Body: x})
	}
	if o, _, e := pack.Match(deep, input, api.MaxFuel); e != api.OK || o.To != 4096 || len(o.Captures) != 1 {
		t.Error(o, e)
	}
	caps := read(t, "a <- <k: . b>*\nb <- <k: \"\">{15}\nc <- a <k: \"\">")
	if o, _, e := pack.Run(caps, 0, input, 0, api.MaxFuel); e != api.OK || len(o.Captures) != api.MaxCaps {
		t.Error(len(o.Captures), e)
	}
	if o, used, e := pack.Run(caps, 2, input, 0, api.MaxFuel); e != api.ErrTooLarge || used != 0 || !span.Same(o, span.Fail()) {
		t.Error(e)
	}
}

func TestBytes(t *testing.T) {
	s := sample.New(162)
	for range 40 {
		bytes := s.Set()
		g := api.Grammar{Rules: []api.Def{{Name: "a", Body: tree.Set(bytes)}}}
		for b := range 256 {
			o, used, e := pack.Match(g, string([]byte{byte(b), 'x'}), 1)
			if is := bytes[b/64]>>(b%64)&1 == 1; e != api.OK || used != 1 || o.OK != is || is && o.To != 1 {
				t.Fatal(b, o, e)
			}
		}
		if o, _, e := pack.Match(g, "", 1); e != api.OK || o.OK {
			t.Fatal("at the end")
		}
	}
}

func TestWrong(t *testing.T) {
	g := read(t, "a <- \"x\" b <- b")
	long := strings.Repeat("x", 4097)
	two, _ := expr.Not(tree.Rule("z"))
	for i, row := range []struct {
		g        api.Grammar
		rule     int
		input    string
		at, fuel int
		want     api.Errno
	}{
		{g, 0, "x", 0, 1, api.OK}, {g, 0, "x", 1, api.MaxFuel, api.OK}, {g, -1, "x", 0, 1, api.ErrNone}, {g, 2, "x", 0, 1, api.ErrNone}, {g, 2, long, 9999, -1, api.ErrNone}, {g, 0, long, -1, -1, api.ErrTooLarge}, {g, 0, long[:4096], 4096, 1, api.OK}, {g, 0, long[:4096], 4097, 1, api.ErrArg},
		{g, 0, "x", -1, 1, api.ErrArg}, {g, 0, "x", 2, 1, api.ErrArg}, {g, 0, "x", 0, -1, api.ErrArg}, {g, 0, "x", 0, api.MaxFuel + 1, api.ErrArg}, {g, 1, "x", 0, 0, api.ErrFuel}, {g, 1, "x", 1, 1, api.ErrLeft},
		{api.Grammar{}, 0, long, 0, -1, api.ErrForm}, {api.Grammar{Rules: []api.Def{g.Rules[0], g.Rules[0]}}, 5, "", 0, 1, api.ErrTwice}, {api.Grammar{Rules: []api.Def{{Name: "a", Body: two}}}, 5, "", 0, 1, api.ErrName}, {api.Grammar{Rules: []api.Def{{Name: "a", Body: sample.Deep(33, api.Node{Kind: api.Not})}}}, 5, "", 0, 1, api.ErrTooLarge},
	} {
		o, used, e := pack.Run(row.g, row.rule, row.input, row.at, row.fuel)
		if e != row.want || e != api.OK && (used != 0 || !span.Same(o, span.Fail())) {
			t.Error(i, o, used, e)
		}
	}
	if o, used, e := pack.Match(g, long, 1); e != api.ErrTooLarge || used != 0 || o.OK {
		t.Error(e)
	}
	if o, used, e := pack.Match(api.Grammar{}, "", 1); e != api.ErrForm || used != 0 || o.OK {
		t.Error(e)
	}
	if o, used, e := pack.Match(g, "", -1); e != api.ErrArg || used != 0 || o.OK {
		t.Error(e)
	}
}
