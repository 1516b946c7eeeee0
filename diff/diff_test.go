package diff_test

import (
	"reflect"
	"strings"
	"testing"

	"bonsai/api"
	"bonsai/diff"
	"bonsai/gram"
	"bonsai/print"
	"bonsai/sample"
	"bonsai/tree"
)

// of is a grammar of rules named by letters; x of upper ones, y of others.
func of(letters string) api.Grammar {
	var g api.Grammar
	for _, r := range letters {
		body := tree.Text("y")
		if r < 'a' {
			body = tree.Text("x")
		}
		g.Rules = append(g.Rules, api.Def{Name: strings.ToLower(string(r)), Body: body})
	}
	return g
}

// kinds writes edits as letters.
func kinds(l []diff.Edit) string {
	out := ""
	for _, e := range l {
		out += "KDI"[e.Kind:e.Kind+1] + e.Rule.Name
	}
	return out
}

func TestExamples(t *testing.T) {
	for _, row := range [][3]string{{"abc", "acd", "KDKId"}, {"ab", "ba", "DKIa"}, {"", "", ""}, {"a", "", "D"}, {"", "ab", "IaIb"}, {"a", "A", "DIa"}, {"abc", "abc", "KKK"}, {"aab", "ab", "KDK"}, {"ab", "aab", "KIaK"}, {"abab", "baba", "DKKKIa"}, {"abc", "xyz", "DDDIxIyIz"}, {"aa", "a", "KD"}, {"ba", "ab", "DKIb"}} {
		if got := kinds(diff.Of(of(row[0]), of(row[1]))); got != row[2] {
			t.Error(row, got)
		}
	}
	keep := diff.Edit{Kind: diff.Keep}
	if g, e := diff.Apply(api.Grammar{}, []diff.Edit{keep}); e != api.ErrNone || len(g.Rules) != 0 {
		t.Error(e)
	}
	if g, e := diff.Apply(of("a"), nil); e != api.ErrShort || len(g.Rules) != 0 {
		t.Error(e)
	}
	if g, e := diff.Apply(api.Grammar{}, nil); e != api.OK || len(g.Rules) != 0 {
		t.Error(e)
	}
	if got := diff.Report(of("abc"), of("acd")); got != "  a <- \"y\"\n- b <- \"y\"\n  c <- \"y\"\n+ d <- \"y\"\n" {
		t.Errorf("%q", got)
	}
	if got := diff.Report(of("a"), of("A")); got != "- a <- \"y\"\n+ a <- \"x\"\n" {
		t.Errorf("%q", got)
	}
	for _, g := range []api.Grammar{{}, of("aa"), {Rules: []api.Def{{Name: "a"}}}} {
		if diff.Report(g, of("a")) != "" || diff.Report(of("a"), g) != "" {
			t.Error("of one that may not be")
		}
	}
}

func TestMay(t *testing.T) {
	def := api.Def{Name: "a", Body: tree.Text("x")}
	for i, row := range []struct {
		e    diff.Edit
		want bool
	}{
		{diff.Edit{}, true}, {diff.Edit{Kind: diff.Delete}, true}, {diff.Edit{Kind: diff.Insert}, true}, {diff.Edit{Kind: diff.Insert, Rule: def}, true}, {diff.Edit{Kind: diff.Insert, Rule: api.Def{Name: "-", Body: api.Tree{Root: 7}}}, true}, {diff.Edit{Kind: 3}, false}, {diff.Edit{Kind: 255}, false}, {diff.Edit{Kind: diff.Keep, Rule: def}, false}, {diff.Edit{Kind: diff.Delete, Rule: def}, false},
		{diff.Edit{Rule: api.Def{Name: "a"}}, false}, {diff.Edit{Rule: api.Def{Body: api.Tree{Root: 1}}}, false}, {diff.Edit{Rule: api.Def{Body: api.Tree{Nodes: []api.Node{{}}}}}, false}, {diff.Edit{Kind: diff.Delete, Rule: api.Def{Body: api.Tree{Nodes: []api.Node{}}}}, true},
	} {
		if diff.May(row.e) != row.want {
			t.Error(i)
		}
		g, e := diff.Apply(of("a"), []diff.Edit{row.e})
		if !row.want && (e != api.ErrForm || len(g.Rules) != 0) {
			t.Error(i, e)
		}
		if g, e = diff.Apply(api.Grammar{}, []diff.Edit{row.e}); !row.want && e != api.ErrForm || len(g.Rules) != 0 && e != api.OK {
			t.Error(i, e)
		}
	}
	one, two, three := diff.Count([]diff.Edit{{}, {Kind: 1, Rule: def}, {Kind: 1}, {Kind: 2}, {Kind: 2}, {Kind: 2}, {Kind: 3}, {Kind: 255}})
	if one != 1 || two != 2 || three != 3 {
		t.Error(one, two, three)
	}
	del := diff.Edit{Kind: diff.Delete}
	if g, e := diff.Apply(of("a"), []diff.Edit{del, del, {Kind: 9}}); e != api.ErrNone || len(g.Rules) != 0 {
		t.Error(e)
	}
	if g, e := diff.Apply(of("ab"), []diff.Edit{del, {Kind: 9}}); e != api.ErrForm || len(g.Rules) != 0 {
		t.Error(e)
	}
}

// rows is all rows of edits that make one text of another one, as letters, Keep ahead of Delete ahead of Insert.
func best(a, b string) string {
	if a == "" && b == "" {
		return ""
	}
	out := ""
	try := func(s string) {
		if out == "" || cost(s) < cost(out) {
			out = s
		}
	}
	if a != "" && b != "" && a[0] == b[0] {
		try("K" + best(a[1:], b[1:]))
	}
	if a != "" {
		try("D" + best(a[1:], b))
	}
	if b != "" {
		try("I" + strings.ToLower(b[:1]) + best(a, b[1:]))
	}
	return out
}

func cost(s string) int { return strings.Count(s, "D") + strings.Count(s, "I") }

func TestFewest(t *testing.T) {
	s := sample.New(301)
	for range 1500 {
		a, b, c := s.Word(s.Below(6), "abA"), s.Word(s.Below(6), "abA"), s.Word(s.Below(6), "abA")
		g, h := of(a), of(b)
		l := diff.Of(g, h)
		if kinds(l) != best(a, b) {
			t.Fatal(a, b, kinds(l), best(a, b))
		}
		out, e := diff.Apply(g, l)
		if e != api.OK || !gram.Same(out, h) {
			t.Fatal("done", a, b)
		}
		k, d, i := diff.Count(l)
		k2, d2, i2 := diff.Count(diff.Of(h, g))
		if k != k2 || d != i2 || i != d2 || k+d != len(a) || k+i != len(b) {
			t.Fatal("turned about", a, b)
		}
		_, d3, i3 := diff.Count(diff.Of(g, of(c)))
		_, d4, i4 := diff.Count(diff.Of(of(c), h))
		if d+i > d3+i3+d4+i4 {
			t.Fatal("by way of", a, c, b)
		}
	}
}

func TestGrammars(t *testing.T) {
	s := sample.New(302)
	for range 500 {
		g, h := s.Grammar(1+s.Below(5), 2), s.Grammar(1+s.Below(5), 2)
		for i := range h.Rules {
			if i < len(g.Rules) && s.OneIn(2) {
				h.Rules[i].Body = s.Turned(g.Rules[i].Body)
			}
		}
		if s.OneIn(4) {
			g.Rules[0].Body = s.Broken(g.Rules[0].Body)
			h.Rules[0] = g.Rules[0]
		}
		before, after := gram.Copy(g), gram.Copy(h)
		l := diff.Of(g, h)
		out, e := diff.Apply(g, l)
		if e != api.OK || len(out.Rules) != len(h.Rules) {
			t.Fatal(e)
		}
		for i, d := range out.Rules {
			if d.Name != h.Rules[i].Name || !tree.Same(d.Body, h.Rules[i].Body) && tree.Right(d.Body) {
				t.Fatal("done")
			}
		}
		if tree.Right(g.Rules[0].Body) == false && l[0].Kind == diff.Keep {
			t.Fatal("a body that is not right is the same as none")
		}
		if gram.May(g) == api.OK && kinds(diff.Of(g, g)) != strings.Repeat("K", len(g.Rules)) {
			t.Fatal("itself")
		}
		report(t, g, h, l)
		for _, e := range l {
			for i := range e.Rule.Body.Nodes {
				e.Rule.Body.Nodes[i] = api.Node{Kind: 99}
			}
		}
		for _, d := range out.Rules {
			for i := range d.Body.Nodes {
				d.Body.Nodes[i] = api.Node{Kind: 98}
			}
		}
		if !reflect.DeepEqual(before, gram.Copy(g)) || !reflect.DeepEqual(after, gram.Copy(h)) {
			t.Fatal("changed, or memory is shared")
		}
	}
}

func report(t *testing.T, g, h api.Grammar, l []diff.Edit) {
	t.Helper()
	want, i := "", 0
	for _, e := range l {
		switch e.Kind {
		case diff.Keep:
			want += "  " + print.Def(g.Rules[i])
			i++
		case diff.Delete:
			want += "- " + print.Def(g.Rules[i])
			i++
		case diff.Insert:
			want += "+ " + print.Def(e.Rule)
		}
	}
	if gram.May(g) != api.OK || gram.May(h) != api.OK {
		want = ""
	}
	if got := diff.Report(g, h); got != want {
		t.Fatalf("%q, not %q", got, want)
	}
}

func TestNodeByNode(t *testing.T) {
	odd := api.Tree{Nodes: []api.Node{{Kind: api.Text, Text: "y"}, {Kind: api.Text, Text: "x"}, {Kind: api.Seq, Kids: []int{1, 0}}}, Root: 2}
	bad := api.Tree{Nodes: []api.Node{{Kind: 77, Kids: []int{5}}}, Root: 3}
	g := api.Grammar{Rules: []api.Def{{Name: "", Body: odd}, {Name: "-", Body: bad}}}
	out, e := diff.Apply(g, []diff.Edit{{}, {}, {Kind: diff.Insert, Rule: g.Rules[1]}})
	if e != api.OK || len(out.Rules) != 3 || !reflect.DeepEqual(out.Rules[0].Body, gram.Copy(g).Rules[0].Body) || !reflect.DeepEqual(out.Rules[2], gram.Copy(g).Rules[1]) {
		t.Error(out, e)
	}
	turned := api.Grammar{Rules: []api.Def{{Name: "", Body: tree.Clean(odd)}}}
	if got := kinds(diff.Of(turned, api.Grammar{Rules: g.Rules[:1]})); got != "K" {
		t.Error(got)
	}
	if got := kinds(diff.Of(g, g)); got != "KDI-" {
		t.Error(got)
	}
	long := of(strings.Repeat("abcde", 400))
	if l := diff.Of(long, of(strings.Repeat("bcdea", 400))); len(l) != 2001 {
		t.Error(len(l))
	}
}

func TestNumbers(t *testing.T) {
	if diff.Keep != 0 || diff.Delete != 1 || diff.Insert != 2 {
		t.Error(diff.Keep, diff.Delete, diff.Insert)
	}
}
