package table_test

import (
	"strings"
	"testing"

	"bonsai/api"
	"bonsai/expr"
	"bonsai/first"
	"bonsai/flow"
	"bonsai/gram"
	"bonsai/parse"
	"bonsai/sample"
	"bonsai/set"
	"bonsai/span"
	"bonsai/table"
	"bonsai/tree"
	"bonsai/well"
)

func made(t *testing.T, text, input string) *table.Table {
	t.Helper()
	g, _, e := parse.Grammar(text)
	if e != api.OK {
		t.Fatal(text, e)
	}
	tab, e := table.New(g, input)
	if e != api.OK || tab == nil || tab.Input() != input {
		t.Fatal(text, e)
	}
	return tab
}

func expression(t *testing.T, text string) api.Tree {
	t.Helper()
	x, _, e := parse.Expr(text)
	if e != api.OK {
		t.Fatal(text, e)
	}
	return x
}

func shown(o api.Outcome) string {
	s, e := span.Show(o)
	if e != api.OK {
		return "may not be"
	}
	return s
}

func TestExamples(t *testing.T) {
	tab := made(t, "a <- <x: \"p\" a / \"\">", "pp")
	o, e := tab.Outcome(0, 0)
	if n, f := tab.Count(0, 0); e != api.OK || shown(o) != "match 2\nx 0 2\nx 1 2\nx 2 2\n" || f != api.OK || n != 3 || tab.Known() != 3 {
		t.Error(shown(o), e, n, f, tab.Known())
	}
	if o, e := tab.Expr(expression(t, "&\"p\""), 1); e != api.OK || shown(o) != "match 1\n" {
		t.Error(o, e)
	}
	if o, e := tab.Expr(expression(t, "!."), 2); e != api.OK || shown(o) != "match 2\n" {
		t.Error(o, e)
	}
	if o, e := tab.Expr(expression(t, "&a"), 0); e != api.OK || shown(o) != "match 0\n" {
		t.Error(o, e)
	}
	if o, e := made(t, "a <- a", "x").Outcome(0, 0); e != api.ErrNone || o.OK {
		t.Error(o, e)
	}
}

func TestKinds(t *testing.T) {
	tab := made(t, "r <- \"b\" / <r: \"a\"> r\nnone <- none / \"a\"\nsome <- \"a\" / some", "aab\x00\xff")
	for text, want := range map[string]string{
		"\"\" @1": "match 1\n", "[a-b] @2": "match 3\n", "[^a] @0": "fail\n", ". @5": "fail\n", ". @4": "match 5\n", "\"ab\" @1": "match 3\n", "\"ab\" @0": "fail\n", "\"\\xff\\x00\" @4": "fail\n", "\"b\\x00\\xff\" @2": "match 5\n",
		"r @0": "match 3\nr 0 1\nr 1 2\n", "r @3": "fail\n", "<n: r> <m: .> @1": "match 4\nn 1 3\nr 1 2\nm 3 4\n", "r r @0": "fail\n", "\"aa\" / r @1": "match 3\nr 1 2\n", "<n: \"ab\"> / <m: \"a\"> / none @0": "match 1\nm 0 1\n", "none / \"a\" @0": "",
		"\"a\"* @0": "match 2\n", "\"a\"{1} @0": "match 1\n", "\"a\"{3} @0": "fail\n", "\"a\"{3,} @0": "fail\n", "\"a\"{2,} @0": "match 2\n", "\"a\"{0} @0": "match 0\n", "none{0} @0": "match 0\n", "\"a\"* @2": "match 2\n", "\"a\"+ @2": "fail\n", "<k: \"a\">* @0": "match 2\nk 0 1\nk 1 2\n", "<k: \"a\">{1} . @0": "match 2\nk 0 1\n",
		"<k: \"\">{3} @1": "match 1\nk 1 1\nk 1 1\nk 1 1\n", "<k: \"a\"?>{4} @0": "match 2\nk 0 1\nk 1 2\nk 2 2\nk 2 2\n", "\"\"* @0": "", "(\"a\"?)* @2": "", "(\"a\"?)* @0": "", "(\"a\"?){2,} @0": "", "(!.)* @5": "", "(!.)* @4": "match 4\n", "([])* @0": "match 0\n",
		"&r @0": "match 0\n", "!r @0": "fail\n", "!r @3": "match 3\n", "&r @3": "fail\n", "!none @0": "", "&none @0": "", "<z: none> @0": "", "none @2": "", "some @0": "match 1\n", "some @2": "", "\"b\" none @0": "fail\n", "\"a\" none @0": "", "some / none @1": "match 2\n", "\"a\"{2} none{0} @0": "match 2\n",
		"<n: <m: \"\">> @5": "match 5\nn 5 5\nm 5 5\n", "!<n: \"a\"> @3": "match 3\n", "(<n: \"a\"> \"b\" / .)* @0": "match 5\nn 1 2\n", "(\"a\" / r)? @9": "no",
	} {
		text, place, _ := strings.Cut(text, " @")
		at := int(place[0] - '0')
		o, e := tab.Expr(expression(t, text), at)
		switch {
		case want == "no":
			if e != api.ErrArg || !span.Same(o, span.Fail()) {
				t.Error(text, e)
			}
		case want == "":
			if e != api.ErrNone || !span.Same(o, span.Fail()) {
				t.Error(text, o, e)
			}
		case e != api.OK || shown(o) != want:
			t.Errorf("%s at %d: %q %v", text, at, shown(o), e)
		}
	}
}

// held holds a table against what is derived word by word.
func held(t *testing.T, s *sample.Source, g api.Grammar, input string) {
	t.Helper()
	before := gram.Copy(g)
	tab, e := table.New(g, input)
	if e != api.OK || tab.Input() != input {
		t.Fatal(e)
	}
	if !gram.Same(g, before) {
		t.Fatal("changed")
	}
	oracle := sample.NewOracle(g, input)
	known := 0
	for i := range g.Rules {
		for at := range len(input) + 1 {
			want, is := oracle.Rule(i, at)
			got, e := tab.Outcome(i, at)
			n, f := tab.Count(i, at)
			if !is {
				if e != api.ErrNone || f != api.ErrNone || n != 0 || !span.Same(got, span.Fail()) {
					t.Fatal(input, i, at, got, e, f)
				}
				continue
			}
			known++
			if e != api.OK || f != api.OK || !span.Same(got, want) || n != len(want.Captures) || !span.May(got, len(input)) {
				t.Fatal(input, i, at, got, "not", want, e, n)
			}
		}
	}
	if tab.Known() != known || well.Check(g) == api.OK && known != len(g.Rules)*(len(input)+1) {
		t.Fatal("Known", tab.Known(), known)
	}
	for range 3 {
		x, at := s.Tree(3, gram.Names(g)), s.Below(len(input)+1)
		want, is := oracle.Expr(x, at)
		got, e := tab.Expr(x, at)
		if is && (e != api.OK || !span.Same(got, want)) || !is && (e != api.ErrNone || !span.Same(got, span.Fail())) {
			t.Fatal("Expr", x, at, got, "not", want, e)
		}
	}
	flows(t, tab, g, input)
}

func flows(t *testing.T, tab *table.Table, g api.Grammar, input string) {
	t.Helper()
	f, _ := flow.Of(g)
	l, _ := first.Of(g)
	at := len(input) / 2
	behind, _ := table.New(g, input[at:])
	for i := range g.Rules {
		o, e := tab.Outcome(i, at)
		moved, e2 := behind.Outcome(i, 0)
		if e != e2 {
			t.Fatal("behind", e, e2)
		}
		if e != api.OK {
			continue
		}
		if moved, _ = span.Shift(moved, at); !span.Same(moved, o) {
			t.Fatal("behind", moved, o)
		}
		switch {
		case !o.OK && !f[i].Fail, o.OK && o.To == at && (!f[i].Zero || !l[i].Free), o.OK && o.To > at && (!f[i].Some || !set.Has(l[i].Set, input[at])):
			t.Fatal("what flows, what begins", o, f[i], l[i])
		}
	}
}

func TestAgainstWords(t *testing.T) {
	s := sample.New(151)
	tried := 0
	for range 3000 {
		g := s.Grammar(1+s.Below(4), 1+s.Below(4))
		if gram.May(g) != api.OK {
			continue
		}
		tried++
		held(t, s, g, s.Input(6))
	}
	if tried < 1500 {
		t.Fatal(tried)
	}
}

func TestCounts(t *testing.T) {
	tab := made(t, "a <- <n: b>{0,99}\nb <- <n: c>{0,99}\nc <- <n: d>{0,99}\nd <- <n: e>{0,99}\ne <- <n: f>{0,99}\nf <- <n: g>{0,99}\ng <- <n: \"\">{0,99}\nh <- &a !a{0} / a\ni <- (<n: \"x\">{0,99} \"x\")* \"\"\nj <- <m: \"\">{99}", "x")
	for i, want := range map[int]int{6: 99, 5: 9900, 4: 980199 - 99 + 0, 0: table.MaxCount, 7: table.MaxCount, 8: 0, 9: 99} {
		if i == 4 {
			want = 99 * (1 + 9900)
		}
		n, e := tab.Count(i, 0)
		if e != api.OK || n != want {
			t.Error(i, n, e)
		}
		o, e := tab.Outcome(i, 0)
		if n > api.MaxCaps && (e != api.ErrTooLarge || !span.Same(o, span.Fail())) || n <= api.MaxCaps && (e != api.OK || len(o.Captures) != n) {
			t.Error(i, len(o.Captures), e)
		}
	}
	if _, e := tab.Expr(expression(t, "<m: b>{99} \"x\""), 0); e != api.ErrTooLarge {
		t.Error(e)
	}
	if o, e := tab.Expr(expression(t, "&b{99} !!b{99} \"x\""), 0); e != api.OK || shown(o) != "match 1\n" {
		t.Error(o, e)
	}
	input := strings.Repeat("a", 4096)
	long := made(t, "a <- <k: <l: .>* (<k: \"\">{15}){0} > <m: \"\">{99}{0,99} / \"\"\nb <- <k: .>*\nc <- <k: . c>?", input)
	for i, want := range map[int]int{0: 4096 + 1 + 9801, 1: 4096, 2: 4096} {
		if o, e := long.Outcome(i, 0); e != api.OK || len(o.Captures) != want || !span.May(o, 4096) {
			t.Error(i, len(o.Captures), e)
		}
	}
	just := made(t, "a <- <k: .>{0} <k: . b>*\nb <- <k: \"\">{15}\nc <- a <k: \"\">", input)
	if o, e := just.Outcome(0, 0); e != api.OK || len(o.Captures) != api.MaxCaps {
		t.Error(len(o.Captures), e)
	}
	if n, e := just.Count(2, 0); e != api.OK || n != api.MaxCaps+1 {
		t.Error(n, e)
	}
	if o, e := just.Outcome(2, 0); e != api.ErrTooLarge || len(o.Captures) != 0 {
		t.Error(e)
	}
}

func TestDeep(t *testing.T) {
	// Each of 4096 places has 64 rules of 25 nodes within each other.
	var g api.Grammar
	names := sample.Names(64)
	for i := range names {
		body := "(((((((((((" + names[(i+1)%64] + "?)?)?)?)?)?)?)?)?)?)?)?"
		if i == 63 {
			body = ". " + names[0] + " / <n: !.>"
		}
		x, _, _ := parse.Expr(body)
		g.Rules = append(g.Rules, api.Def{Name: names[i], Body: x})
	}
	tab, e := table.New(g, strings.Repeat("x", 4096))
	if e != api.OK {
		t.Fatal(e)
	}
	if o, e := tab.Outcome(0, 0); e != api.OK || shown(o) != "match 4096\nn 4096 4096\n" {
		t.Error(o, e)
	}
}

func TestWrong(t *testing.T) {
	g := api.Grammar{Rules: []api.Def{{Name: "a", Body: tree.Text("x")}}}
	for _, bad := range []api.Grammar{{}, {Rules: make([]api.Def, 65)}, {Rules: []api.Def{g.Rules[0], g.Rules[0]}}, {Rules: []api.Def{{Name: "a", Body: tree.Rule("b")}}}, {Rules: []api.Def{{Name: "a", Body: sample.Deep(33, api.Node{Kind: api.And})}}}} {
		if tab, e := table.New(bad, strings.Repeat("x", 5000)); tab != nil || e == api.OK || e != gram.May(bad) {
			t.Error(e)
		}
	}
	if tab, e := table.New(g, strings.Repeat("x", 4097)); tab != nil || e != api.ErrTooLarge {
		t.Error(e)
	}
	tab, e := table.New(g, strings.Repeat("x", 4096))
	if e != api.OK || tab.Known() != 4097 {
		t.Fatal(e)
	}
	for _, row := range [][2]int{{-1, 0}, {1, 0}, {0, -1}, {0, 4097}} {
		o, e := tab.Outcome(row[0], row[1])
		n, f := tab.Count(row[0], row[1])
		if e != api.ErrArg || f != api.ErrArg || n != 0 || !span.Same(o, span.Fail()) {
			t.Error(row, e, f)
		}
	}
	two, _ := expr.Seq([]api.Tree{tree.Rule("b"), tree.Empty()})
	for i, row := range []struct {
		x    api.Tree
		at   int
		want api.Errno
	}{
		{two, 4097, api.ErrArg}, {two, -1, api.ErrArg}, {two, 0, api.ErrName}, {api.Tree{}, 4097, api.ErrArg}, {api.Tree{}, 0, api.ErrForm}, {tree.Text(""), 0, api.ErrForm}, {sample.Deep(33, api.Node{Kind: api.And}), 0, api.ErrForm}, {sample.Deep(32, api.Node{Kind: api.And}), 0, api.OK},
		{api.Tree{Nodes: []api.Node{{}, {}, {Kind: api.Seq, Kids: []int{0, 1}}}, Root: 2}, 4096, api.OK},
	} {
		if o, e := tab.Expr(row.x, row.at); e != row.want || e != api.OK && !span.Same(o, span.Fail()) {
			t.Error(i, e)
		}
	}
	var none *table.Table
	o, e1 := none.Outcome(0, 0)
	n, e2 := none.Count(0, 0)
	x, e3 := none.Expr(tree.Empty(), 0)
	if e1 != api.ErrNil || e2 != api.ErrNil || e3 != api.ErrNil || n != 0 || o.OK || x.OK || none.Input() != "" || none.Known() != 0 {
		t.Error("of nil")
	}
	// One that New did not make tells nothing, but it ends.
	empty := new(table.Table)
	empty.Outcome(0, 0)
	empty.Count(0, 0)
	empty.Expr(tree.Empty(), 0)
	empty.Known()
	if a, _ := tab.Outcome(0, 0); a.OK {
		tab.Expr(tree.Rule("a"), 0)
		g.Rules[0].Body.Nodes[0].Text = "y"
		if b, _ := tab.Outcome(0, 0); !span.Same(a, b) {
			t.Error("memory is shared")
		}
	}
}

func TestMaxCount(t *testing.T) {
	if table.MaxCount != 1099511627776 {
		t.Error(table.MaxCount)
	}
}
