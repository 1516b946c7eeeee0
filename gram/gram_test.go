package gram_test

import (
	"reflect"
	"strings"
	"testing"

	"bonsai/api"
	"bonsai/expr"
	"bonsai/gram"
	"bonsai/name"
	"bonsai/parse"
	"bonsai/print"
	"bonsai/sample"
	"bonsai/tree"
)

func of(n api.Node, kids ...api.Tree) api.Tree {
	out, ok := tree.Of(n, kids)
	if !ok {
		panic("a node that does not fit")
	}
	return out
}

func seq(kids ...api.Tree) api.Tree { return of(api.Node{Kind: api.Seq}, kids...) }

func rules(l ...any) api.Grammar {
	var g api.Grammar
	for i := 0; i < len(l); i += 2 {
		g.Rules = append(g.Rules, api.Def{Name: l[i].(string), Body: l[i+1].(api.Tree)})
	}
	return g
}

// wide is a Seq of so many nodes.
func wide(n int, kid api.Tree) api.Tree {
	var kids []api.Tree
	for range n - 1 {
		kids = append(kids, kid)
	}
	return of(api.Node{Kind: api.Seq}, kids...)
}

func many(n int) api.Grammar {
	var g api.Grammar
	for i := range n {
		g.Rules = append(g.Rules, api.Def{Name: "r" + name.Show(i), Body: tree.Empty()})
	}
	return g
}

func TestExamples(t *testing.T) {
	a, b := seq(tree.Rule("b"), tree.Text("x")), tree.Empty()
	g := rules("a", a, "b", b)
	if gram.May(g) != api.OK || gram.Nodes(g) != 4 {
		t.Error("a, b")
	}
	if e := gram.May(rules("a", a)); e != api.ErrName {
		t.Error(e)
	}
	if e := gram.May(rules("a", a, "b", b, "a", a)); e != api.ErrTwice {
		t.Error(e)
	}
	if e := gram.May(rules("a", seq(seq(b, b), b))); e != api.ErrForm {
		t.Error(e)
	}
	if e := gram.May(api.Grammar{}); e != api.ErrForm {
		t.Error(e)
	}
	if e := gram.May(many(100)); e != api.ErrTooLarge {
		t.Error(e)
	}
}

func TestMay(t *testing.T) {
	x, y := tree.Text("x"), tree.Rule("y")
	long := tree.Text(strings.Repeat("x", 255))
	ugly := tree.Text(strings.Repeat("\x00", 255))
	choices := of(api.Node{Kind: api.Choice}, of(api.Node{Kind: api.Choice}, x, x), x)
	full := wide(1023, x)
	// 8 literals of 1022 bytes (255 signs of four and two quotes), 7 blanks, and what the line has else: 8192 - 5 - 1 - 7 = 8 * 1022 + 3.
	exact := seq(ugly, ugly, ugly, ugly, ugly, ugly, ugly, ugly)
	for i, row := range []struct {
		g    api.Grammar
		want api.Errno
	}{
		{rules("a", x), api.OK}, {rules("a", tree.Rule("a")), api.OK}, {many(64), api.OK}, {many(65), api.ErrTooLarge}, {rules("a", full, "b", x), api.OK}, {rules("a", full, "b", of(api.Node{Kind: api.Not}, x)), api.ErrTooLarge}, {rules("a", wide(1024, x)), api.OK}, {rules("a", wide(1025, x)), api.ErrTooLarge},
		{rules("a", sample.Deep(32, api.Node{Kind: api.Not})), api.OK}, {rules("a", sample.Deep(33, api.Node{Kind: api.Not})), api.ErrTooLarge}, {rules("b", x, "a", sample.Deep(65536, api.Node{Kind: api.Not})), api.ErrTooLarge},
		{rules("a", exact), api.OK}, {rules("abc", exact), api.OK}, {rules("abcd", exact), api.OK}, {rules("abcde", exact), api.ErrTooLarge}, {rules("a", wide(33, long)), api.ErrTooLarge}, {rules("a", wide(32, long)), api.OK},
		{rules("", x), api.ErrForm}, {rules("1", x), api.ErrForm}, {rules("a b", x), api.ErrForm}, {rules(strings.Repeat("n", 32), x), api.OK}, {rules(strings.Repeat("n", 33), x), api.ErrForm}, {rules("a", api.Tree{}), api.ErrForm}, {rules("a", tree.Text("")), api.ErrForm}, {rules("a", choices), api.ErrForm},
		{rules("a", seq(x, tree.Empty())), api.ErrForm}, {rules("a", tree.Rule("9")), api.ErrForm}, {rules("a", y), api.ErrName}, {rules("a", y, "y", x), api.OK}, {rules("a", x, "a", x), api.ErrTwice}, {rules("a", of(api.Node{Kind: api.Rep}, y)), api.ErrName}, {rules("a", of(api.Node{Kind: api.Cap, Text: "y"}, x)), api.OK}, {rules("a", tree.Rule("A")), api.ErrName},
		// What comes first is told.
		{rules("a", y, "a", x), api.ErrTwice}, {rules("a", wide(1025, y), "a", x), api.ErrTooLarge}, {rules("a", wide(1025, y), "a", seq(x, tree.Empty())), api.ErrForm}, {rules("a", wide(1025, y), "-", x), api.ErrForm}, {rules("a", x, "a", choices), api.ErrForm},
		{rules("a", y, "b", sample.Deep(33, api.Node{Kind: api.And})), api.ErrTooLarge}, {rules("a", y, "a", wide(33, long)), api.ErrTooLarge}, {rules("a", sample.Deep(33, api.Node{Kind: api.And}), "b", api.Tree{}), api.ErrForm},
	} {
		if got := gram.May(row.g); got != row.want {
			t.Error(i, got, "not", row.want, "size", print.Size(row.g))
		}
	}
	two := many(65)
	two.Rules[64].Name = "r0"
	if e := gram.May(two); e != api.ErrTooLarge {
		t.Error(e)
	}
	two.Rules[3].Body = tree.Text("")
	if e := gram.May(two); e != api.ErrForm {
		t.Error(e)
	}
}

func TestFind(t *testing.T) {
	g := rules("a", tree.Empty(), "b", tree.Rule("b"), "a", tree.Text("x"), "", api.Tree{})
	for name, want := range map[string]int{"a": 0, "b": 1, "": 3, "c": -1, "A": -1} {
		if got := gram.Find(g, name); got != want {
			t.Error(name, got)
		}
	}
	if got := gram.Names(g); !reflect.DeepEqual(got, []string{"a", "b", "a", ""}) {
		t.Error(got)
	}
	if got := gram.Nodes(g); got != 3 {
		t.Error(got)
	}
	if gram.Find(api.Grammar{}, "a") != -1 || len(gram.Names(api.Grammar{})) != 0 || gram.Nodes(api.Grammar{}) != 0 {
		t.Error("of no rules")
	}
}

func TestRead(t *testing.T) {
	s := sample.New(91)
	may := 0
	for range 2000 {
		g := s.Grammar(1+s.Below(5), 1+s.Below(4))
		if s.OneIn(5) {
			g.Rules[s.Below(len(g.Rules))].Name = []string{"q", "1", "a", ""}[s.Below(4)]
		}
		before := gram.Copy(g)
		e := gram.May(g)
		text := print.Grammar(g)
		if e != api.OK {
			if got, _, e := parse.Grammar(text); e == api.OK && gram.Same(got, g) && print.Size(got) <= api.MaxBytes && gram.Nodes(got) <= api.MaxNodes {
				t.Fatalf("%q: may not be, and is read", text)
			}
			continue
		}
		may++
		got, _, e := parse.Grammar(text)
		if e != api.OK || !gram.Same(got, g) || !gram.Same(g, got) || gram.May(got) != api.OK {
			t.Fatalf("%q is read as %q", text, print.Grammar(got))
		}
		for i, name := range gram.Names(g) {
			if gram.Find(g, name) != i {
				t.Fatal("found elsewhere:", name)
			}
		}
		if !reflect.DeepEqual(g, before) {
			t.Fatal("changed")
		}
	}
	if may < 500 || may > 1900 {
		t.Fatal(may)
	}
}

func TestSame(t *testing.T) {
	s := sample.New(92)
	same := 0
	for range 3000 {
		a, b := s.Grammar(1+s.Below(2), 2), s.Grammar(1+s.Below(2), 2)
		if s.OneIn(2) {
			b = api.Grammar{}
			for _, d := range a.Rules {
				b.Rules = append(b.Rules, api.Def{Name: d.Name, Body: s.Turned(d.Body)})
			}
		}
		if s.OneIn(4) {
			b.Rules[0].Name = "q"
		}
		want := print.Grammar(a) == print.Grammar(b)
		if gram.Same(a, b) != want || gram.Same(b, a) != want || !gram.Same(a, a) || gram.Same(gram.Copy(a), b) != want {
			t.Fatal("Same", a, b)
		}
		if want {
			same++
		}
	}
	if same < 500 || same > 2500 {
		t.Fatal(same)
	}
	a := rules("a", tree.Empty(), "b", tree.Text("x"))
	for i, b := range []api.Grammar{rules("b", tree.Text("x"), "a", tree.Empty()), rules("a", tree.Empty()), rules("a", tree.Empty(), "b", tree.Rule("x")), rules("a", tree.Empty(), "c", tree.Text("x")), {}} {
		if gram.Same(a, b) || gram.Same(b, a) {
			t.Error(i)
		}
	}
	bad := rules("a", tree.Text(""))
	if gram.Same(bad, bad) || !gram.Same(api.Grammar{}, api.Grammar{}) {
		t.Error("of what is not right, of none")
	}
	if odd := rules("", tree.Empty(), "", tree.Empty()); !gram.Same(odd, odd) {
		t.Error("names that are none")
	}
}

func TestChanged(t *testing.T) {
	s := sample.New(93)
	for range 1000 {
		g := s.Grammar(1+s.Below(4), 3)
		if s.OneIn(3) {
			i := s.Below(len(g.Rules))
			g.Rules[i].Body = s.Broken(g.Rules[i].Body)
		}
		before := gram.Copy(g)
		if !reflect.DeepEqual(plain(before), plain(g)) {
			t.Fatal("Copy", before, g)
		}
		body := s.Tree(3, nil)
		was, _ := expr.Make(body)
		for i := -1; i <= len(g.Rules); i++ {
			with, ok := gram.With(g, i, body)
			drop, dropped := gram.Drop(g, i)
			if is := i >= 0 && i < len(g.Rules); ok != is || dropped != is {
				t.Fatal("With, Drop", i)
			}
			if !ok {
				if len(with.Rules) != 0 || len(drop.Rules) != 0 {
					t.Fatal("With, Drop of none")
				}
				continue
			}
			for j, d := range with.Rules {
				want := g.Rules[j]
				if j == i {
					want.Body = body
				}
				if !reflect.DeepEqual(plain(api.Grammar{Rules: []api.Def{d}}), plain(api.Grammar{Rules: []api.Def{want}})) {
					t.Fatal("With", i, j)
				}
			}
			left := append(append([]api.Def{}, g.Rules[:i]...), g.Rules[i+1:]...)
			if !reflect.DeepEqual(plain(drop), plain(api.Grammar{Rules: left})) {
				t.Fatal("Drop", i)
			}
			spoil(with)
			spoil(drop)
		}
		copied := gram.Copy(g)
		spoil(copied)
		if !reflect.DeepEqual(plain(g), plain(before)) {
			t.Fatal("changed")
		}
		if now, _ := expr.Make(body); !reflect.DeepEqual(was, now) {
			t.Fatal("the body was changed")
		}
	}
}

// plain is a grammar with no list that has nothing.
func plain(g api.Grammar) api.Grammar {
	var out api.Grammar
	for _, d := range g.Rules {
		t := api.Tree{Root: d.Body.Root}
		for _, n := range d.Body.Nodes {
			n.Kids = append([]int(nil), n.Kids...)
			t.Nodes = append(t.Nodes, n)
		}
		out.Rules = append(out.Rules, api.Def{Name: d.Name, Body: t})
	}
	return out
}

func spoil(g api.Grammar) {
	for i, d := range g.Rules {
		for j, n := range d.Body.Nodes {
			for k := range n.Kids {
				n.Kids[k] = -9
			}
			d.Body.Nodes[j] = api.Node{Kind: 77}
		}
		g.Rules[i] = api.Def{}
	}
}
