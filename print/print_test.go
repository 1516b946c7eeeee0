package print_test

import (
	"strings"
	"testing"

	"bonsai/api"
	"bonsai/expr"
	"bonsai/name"
	"bonsai/parse"
	"bonsai/print"
	"bonsai/quote"
	"bonsai/sample"
	"bonsai/set"
	"bonsai/tree"
)

func of(n api.Node, kids ...api.Tree) api.Tree {
	out, ok := tree.Of(n, kids)
	if !ok {
		panic("a node that does not fit")
	}
	return out
}

func seq(kids ...api.Tree) api.Tree    { return of(api.Node{Kind: api.Seq}, kids...) }
func choice(kids ...api.Tree) api.Tree { return of(api.Node{Kind: api.Choice}, kids...) }
func rep(t api.Tree, least, most int) api.Tree {
	return of(api.Node{Kind: api.Rep, Min: least, Max: most}, t)
}

func TestCount(t *testing.T) {
	for _, row := range []struct {
		least, most int
		want        string
	}{
		{0, 1, "?"}, {0, -1, "*"}, {1, -1, "+"}, {0, 0, "{0}"}, {1, 1, "{1}"}, {99, 99, "{99}"}, {2, -1, "{2,}"}, {99, -1, "{99,}"}, {0, 2, "{0,2}"}, {1, 2, "{1,2}"}, {3, 99, "{3,99}"},
		{2, 1, ""}, {-1, -1, ""}, {-1, 3, ""}, {0, -2, ""}, {0, 100, ""}, {100, 100, ""}, {100, -1, ""}, {1, 0, ""},
	} {
		if got := print.Count(row.least, row.most); got != row.want {
			t.Errorf("Count(%d, %d): %q", row.least, row.most, got)
		}
	}
	for least := -2; least < 102; least++ {
		for most := -2; most < 102; most++ {
			text := print.Count(least, most)
			if fits := tree.Fits(api.Node{Kind: api.Rep, Min: least, Max: most}, 1); fits != (text != "") {
				t.Fatal(least, most, text)
			}
			if text == "" {
				continue
			}
			if got, _, e := parse.Expr("x" + text); e != api.OK || !tree.Same(got, rep(tree.Rule("x"), least, most)) {
				t.Fatal(text, "is not read")
			}
		}
	}
}

func TestTrees(t *testing.T) {
	x, y, z := tree.Text("x"), tree.Rule("y"), tree.Set(set.Range('a', 'c'))
	not, and := api.Node{Kind: api.Not}, api.Node{Kind: api.And}
	capt := api.Node{Kind: api.Cap, Text: "n"}
	for want, a := range map[string]api.Tree{
		"\"x\" y / \"\"": choice(seq(x, y), tree.Empty()), "!(y y)": of(not, seq(y, y)), "([a-c]+)?": rep(rep(z, 1, -1), 0, 1), "<n: \"x\" / y>": of(capt, choice(x, y)),
		"\"\"": tree.Empty(), ".": tree.Set(set.All()), "[]": tree.Set(api.Bytes{}), "\"\\n\\\"\\x00\"": tree.Text("\n\"\x00"), "y": y, "[\\-\\]]": tree.Set(set.Of("]-")),
		"(\"x\" / y) y": seq(choice(x, y), y), "(y y) \"x\"": seq(seq(y, y), x), "(y / y) / y": choice(choice(y, y), y), "y y / y y": choice(seq(y, y), seq(y, y)), "y \"\"": seq(y, tree.Empty()),
		"&(y / y)": of(and, choice(y, y)), "&!y": of(and, of(not, y)), "!&y*": of(not, of(and, rep(y, 0, -1))), "!<n: y>": of(not, of(capt, y)), "&\"\"": of(and, tree.Empty()),
		"(y y)*": rep(seq(y, y), 0, -1), "(y / y){2,3}": rep(choice(y, y), 2, 3), "(&y)+": rep(of(and, y), 1, -1), "(!y){0}": rep(of(not, y), 0, 0), "<n: y>*": rep(of(capt, y), 0, -1), "\"\"?": rep(tree.Empty(), 0, 1), "[a-c]{1}": rep(z, 1, 1),
		"<n: y y>": of(capt, seq(y, y)), "<n: <n: \"\">>": of(capt, of(capt, tree.Empty())), "<n: !y> !y y*": seq(of(capt, of(not, y)), of(not, y), rep(y, 0, -1)), "y* / &y / <n: y>": choice(rep(y, 0, -1), of(and, y), of(capt, y)), "((y?)?)?": rep(rep(rep(y, 0, 1), 0, 1), 0, 1),
	} {
		if got := print.Tree(a); got != want {
			t.Errorf("%q, not %q", got, want)
		}
	}
}

// written is a tree's text, by calls within calls, out of the kids' texts.
func written(a api.Tree) string {
	root := tree.Root(a)
	var texts []string
	for _, kid := range tree.Kids(a) {
		text := written(kid)
		in := false
		switch tree.Root(kid).Kind {
		case api.Choice:
			in = root.Kind != api.Cap
		case api.Seq:
			in = root.Kind == api.Seq || root.Kind == api.Rep || root.Kind == api.And || root.Kind == api.Not
		case api.Rep, api.And, api.Not:
			in = root.Kind == api.Rep
		}
		if in {
			text = "(" + text + ")"
		}
		texts = append(texts, text)
	}
	switch root.Kind {
	case api.Set:
		return quote.Class(root.Set)
	case api.Rule:
		return root.Text
	case api.Seq:
		return strings.Join(texts, " ")
	case api.Choice:
		return strings.Join(texts, " / ")
	case api.Rep:
		return texts[0] + print.Count(root.Min, root.Max)
	case api.And:
		return "&" + texts[0]
	case api.Not:
		return "!" + texts[0]
	case api.Cap:
		return "<" + root.Text + ": " + texts[0] + ">"
	}
	return quote.Literal(root.Text)
}

var names = []string{"a", "b"}

func TestTexts(t *testing.T) {
	s := sample.New(81)
	var last api.Tree
	same := 0
	for range 5000 {
		a := s.Tree(1+s.Below(5), names)
		text := print.Tree(a)
		if text == "" || text != written(a) {
			t.Fatalf("%q, not %q", text, written(a))
		}
		if strings.ContainsFunc(text, func(r rune) bool { return r < 32 || r > 126 }) {
			t.Fatalf("%q", text)
		}
		if text != print.Tree(tree.Clean(a)) {
			t.Fatal("the same one, another text")
		}
		normal, _ := expr.Make(a)
		read, _, e := parse.Expr(text)
		if tree.May(normal) && (e != api.OK || !tree.Same(read, normal)) {
			t.Fatalf("%q is read as %v", text, read)
		}
		if len(last.Nodes) > 0 && (print.Tree(last) == text) != tree.Same(last, a) {
			t.Fatalf("%q of unlike ones", text)
		}
		last = s.Tree(2, names)
		if s.OneIn(3) {
			last = s.Turned(a)
		}
		if tree.Same(last, a) != (print.Tree(last) == text) {
			t.Fatal("unlike")
		}
		if tree.Same(last, a) {
			same++
		}
	}
	if same == 0 {
		t.Fatal("no two were the same")
	}
}

func TestGrammars(t *testing.T) {
	g := api.Grammar{Rules: []api.Def{{Name: "a", Body: seq(tree.Text("x"), tree.Rule("b"))}, {Name: "b", Body: tree.Empty()}}}
	want := "a <- \"x\" b\nb <- \"\"\n"
	if got := print.Grammar(g); got != want || print.Size(g) != len(want) {
		t.Errorf("%q", got)
	}
	if got := print.Def(g.Rules[1]); got != "b <- \"\"\n" {
		t.Errorf("%q", got)
	}
	if print.Grammar(api.Grammar{}) != "" || print.Size(api.Grammar{}) != 0 {
		t.Error("no rules")
	}
	for _, d := range []api.Def{{}, {Name: "a"}, {Name: "", Body: tree.Empty()}, {Name: "1", Body: tree.Empty()}, {Name: strings.Repeat("x", 33), Body: tree.Empty()}, {Name: "a", Body: tree.Text("")}, {Name: "a", Body: tree.Rule("-")}} {
		bad := api.Grammar{Rules: append(append([]api.Def{}, g.Rules...), d)}
		if print.Def(d) != "" || print.Grammar(bad) != "" || print.Size(bad) != 0 {
			t.Error(d)
		}
		bad = api.Grammar{Rules: append([]api.Def{d}, g.Rules...)}
		if print.Grammar(bad) != "" || print.Size(bad) != 0 {
			t.Error(d)
		}
	}
	s := sample.New(82)
	for range 500 {
		var g api.Grammar
		whole := ""
		for i := range 1 + s.Below(70) {
			d := api.Def{Name: "r" + name.Show(i), Body: s.Tree(3, names)}
			g.Rules = append(g.Rules, d)
			if line := d.Name + " <- " + print.Tree(d.Body) + "\n"; print.Def(d) != line {
				t.Fatalf("%q", line)
			}
			whole += print.Def(d)
		}
		if got := print.Grammar(g); got != whole || print.Size(g) != len(whole) || strings.Count(got, "\n") != len(g.Rules) {
			t.Fatalf("%q", got)
		}
	}
}

func TestNotRight(t *testing.T) {
	s := sample.New(83)
	for range 2000 {
		if b := s.Broken(s.Tree(4, names)); !tree.Right(b) && print.Tree(b) != "" {
			t.Fatal(b)
		}
	}
	if print.Tree(api.Tree{}) != "" {
		t.Error("of no nodes")
	}
	if got := print.Tree(sample.Deep(65536, api.Node{Kind: api.Not})); got != strings.Repeat("!", 65535)+"\"\"" {
		t.Error("deep")
	}
	if got := print.Tree(sample.Deep(30001, api.Node{Kind: api.Rep, Max: 1})); got != strings.Repeat("(", 29999)+"\"\"?"+strings.Repeat(")?", 29999) {
		t.Error("deep")
	}
	if got := print.Tree(sample.Deep(30001, api.Node{Kind: api.Cap, Text: "n"})); got != strings.Repeat("<n: ", 30000)+"\"\""+strings.Repeat(">", 30000) {
		t.Error("deep")
	}
}
