package parse_test

import (
	"reflect"
	"strings"
	"testing"

	"bonsai/api"
	"bonsai/expr"
	"bonsai/lex"
	"bonsai/parse"
	"bonsai/sample"
	"bonsai/set"
	"bonsai/tree"
)

func of(n api.Node, kids ...api.Tree) api.Tree {
	out, ok := tree.Of(n, kids)
	if !ok {
		panic("a node that does not fit")
	}
	return out
}

func seq(kids ...api.Tree) api.Tree    { return of(api.Node{Kind: api.Seq}, kids...) }
func choice(kids ...api.Tree) api.Tree { return of(api.Node{Kind: api.Choice}, kids...) }
func rep(t api.Tree, least, most int) api.Tree {
	return of(api.Node{Kind: api.Rep, Min: least, Max: most}, t)
}
func not(t api.Tree) api.Tree { return of(api.Node{Kind: api.Not}, t) }
func and(t api.Tree) api.Tree { return of(api.Node{Kind: api.And}, t) }
func capt(name string, t api.Tree) api.Tree {
	return of(api.Node{Kind: api.Cap, Text: name}, t)
}

func TestExamples(t *testing.T) {
	g, at, e := parse.Grammar("a <- \"x\" b* / !.\nb <- [0-9]")
	if e != api.OK || at != 0 || len(g.Rules) != 2 || g.Rules[0].Name != "a" || g.Rules[1].Name != "b" {
		t.Fatal(g, at, e)
	}
	a := choice(seq(tree.Text("x"), rep(tree.Rule("b"), 0, -1)), not(tree.Set(set.All())))
	if !tree.Same(g.Rules[0].Body, a) || !tree.Same(g.Rules[1].Body, tree.Set(set.Range('0', '9'))) {
		t.Fatal(g)
	}
	g, _, e = parse.Grammar("a <- / \"\"")
	if e != api.OK || !tree.Same(g.Rules[0].Body, choice(tree.Empty(), tree.Empty())) {
		t.Fatal(g, e)
	}
}

func TestExpressions(t *testing.T) {
	x, y, z := tree.Text("x"), tree.Text("y"), tree.Rule("z")
	for text, want := range map[string]api.Tree{
		"": tree.Empty(), " #": tree.Empty(), "\"\"": tree.Empty(), "()": tree.Empty(), "(())": tree.Empty(), "\"\" ()": tree.Empty(), "z": z, ".": tree.Set(set.All()), "[^]": tree.Set(set.All()), "[]": tree.Set(api.Bytes{}),
		"\"x\"\"y\"z": seq(x, y, z), "\"x\" (\"y\" z)": seq(x, y, z), "(\"x\" \"\" \"y\") z": seq(x, y, z), "\"x\"/\"y\"/z": choice(x, y, z), "\"x\"/(\"y\"/z)": choice(x, y, z), "((\"x\"/\"y\")/z)": choice(x, y, z),
		"\"x\"/(\"y\" z)": choice(x, seq(y, z)), "\"x\" (\"y\"/z)": seq(x, choice(y, z)), "\"x\"/": choice(x, tree.Empty()), "/": choice(tree.Empty(), tree.Empty()), "(\"x\" (\"y\" / z))": seq(x, choice(y, z)), "\"x\" / (\"\" (\"y\" / z))": choice(x, y, z),
		"z?": rep(z, 0, 1), "z*": rep(z, 0, -1), "z+": rep(z, 1, -1), "z{3}": rep(z, 3, 3), "z{3,}": rep(z, 3, -1), "z{0,9}": rep(z, 0, 9), "z{0}": rep(z, 0, 0), "z?*{2}": rep(rep(rep(z, 0, 1), 0, -1), 2, 2), "\"\"*": rep(tree.Empty(), 0, -1),
		"&z": and(z), "!z": not(z), "!&z": not(and(z)), "&!z+?": and(not(rep(rep(z, 1, -1), 0, 1))), "(!z)*": rep(not(z), 0, -1), "!!!z": not(not(not(z))), "!()": not(tree.Empty()),
		"<n:z>": capt("n", z), "<n : >": capt("n", tree.Empty()), "<n: \"x\" / \"y\">*": rep(capt("n", choice(x, y)), 0, -1), "<n:<m:z>>": capt("n", capt("m", z)), "!<n:z>? \"x\"": seq(not(rep(capt("n", z), 0, 1)), x),
		"z z / z": choice(seq(z, z), z), "z(z)z": seq(z, z, z), "z <n: z>": seq(z, capt("n", z)),
	} {
		got, at, e := parse.Expr(text)
		if e != api.OK || at != 0 || !tree.Same(got, want) {
			t.Errorf("%q: %v %v %v", text, got, at, e)
		}
	}
}

func TestErrors(t *testing.T) {
	deep := strings.Repeat("!", 31)
	many := strings.Repeat("\"x\" ", 1022)
	rules := ""
	for i := range 65 {
		rules += "r" + string(rune('A'+i%26)) + string(rune('A'+i/26)) + " <- \n"
	}
	for text, want := range map[string]struct {
		at int
		e  api.Errno
	}{
		"a <- (b": {7, api.ErrForm}, "a <- b": {5, api.ErrName}, "a <- a a <- a": {7, api.ErrTwice}, "": {0, api.ErrForm}, "a": {1, api.ErrForm}, "a <- !/ b": {6, api.ErrForm},
		"  # x": {5, api.ErrForm}, "a b": {2, api.ErrForm}, "<- a": {0, api.ErrForm}, "\"x\"": {0, api.ErrForm}, "a <- ) b": {5, api.ErrForm}, "a <- (\"x\"  ": {11, api.ErrForm}, "a <- ?": {5, api.ErrForm}, "a <- / *": {7, api.ErrForm},
		"a <- !": {6, api.ErrForm}, "a <- & *": {7, api.ErrForm}, "a <- (b <- c)": {6, api.ErrForm}, "a <- ! b <- \"x\"": {7, api.ErrForm}, "a <- <n: b <- c>": {9, api.ErrForm}, "a <- <n <- b>": {8, api.ErrForm}, "a <- <n b>": {8, api.ErrForm},
		"a <- <\"n\": b>": {6, api.ErrForm}, "a <- <n: b": {10, api.ErrForm}, "a <- <n: a)": {10, api.ErrForm}, "a <- (a>": {7, api.ErrForm}, "a <- a>": {6, api.ErrForm}, "a <- <": {6, api.ErrForm}, "a <- <n": {7, api.ErrForm}, "a <- <n:": {8, api.ErrForm}, "a <- a : a": {7, api.ErrForm},
		"a <- <- a": {5, api.ErrForm}, "a <- a <- <- a": {10, api.ErrForm}, "a <- a b <- (b (a <- b))": {16, api.ErrForm}, "a <- (!)": {7, api.ErrForm}, "a <- a{2,1}": {6, api.ErrForm}, "a <- ) $": {5, api.ErrForm}, "a <- ( $": {7, api.ErrForm}, "a $": {2, api.ErrForm}, "a <- a $ )": {7, api.ErrForm},
		"a <- a a <- $": {12, api.ErrForm}, "a <- q b <- (": {13, api.ErrForm}, "a <- q a <- z b <- a b <-": {7, api.ErrTwice}, "a <- q b <- z": {5, api.ErrName}, "a <- !(q*)? b <- z": {7, api.ErrName}, "a <- <q: a> b <- z{0}": {17, api.ErrName}, "a <- A": {5, api.ErrName},
		"a <-":          {0, api.OK},
		"a <- b <-":     {0, api.OK},
		"a <- b b <- a": {0, api.OK},
		"a <- b / b <-": {0, api.OK}, "a <- q / b <-": {5, api.ErrName},
		"a <- " + deep + "a":                     {0, api.OK},
		"a <- " + deep + "!a":                    {38, api.ErrTooLarge},
		"a <- " + deep + "!b":                    {37, api.ErrName},
		"a <- " + deep + "!a a":                  {40, api.ErrTooLarge},
		"a <- a" + strings.Repeat("?", 32) + " ": {39, api.ErrTooLarge},
		"a <- a" + strings.Repeat("?", 31) + " ": {0, api.OK},
		"a <- " + many:                           {0, api.OK},
		"a <- " + many + "a":                     {0, api.OK},
		"a <- " + many + "a a":                   {5 + 4*1022 + 3, api.ErrTooLarge},
		"a <- " + many + "a a a <-":              {5 + 4*1022 + 4, api.ErrTwice},
		"a <- (" + many + ") (" + many + ") )":   {5 + 8*1022 + 6, api.ErrForm},
		rules[:64*8]:                             {0, api.OK},
		rules:                                    {65 * 8, api.ErrTooLarge},
		rules + "a <- b":                         {65*8 + 5, api.ErrName},
		rules + "a <- $":                         {65*8 + 5, api.ErrForm},
		strings.Repeat(" ", 65537):               {65536, api.ErrTooLarge},
		"a <-" + strings.Repeat(" ", 65532):      {0, api.OK},
		"(" + strings.Repeat(" ", 65537):         {65536, api.ErrTooLarge},
	} {
		g, at, e := parse.Grammar(text)
		if at != want.at || e != want.e || e != api.OK && len(g.Rules) != 0 {
			t.Errorf("%.60q: %v %v, not %v", text, at, e, want)
		}
	}
}

func TestExprErrors(t *testing.T) {
	for text, want := range map[string]struct {
		at int
		e  api.Errno
	}{
		")": {0, api.ErrForm}, "a )": {2, api.ErrForm}, "(": {1, api.ErrForm}, "a <- b": {0, api.ErrForm}, "a b <- c": {2, api.ErrForm}, "a $": {2, api.ErrForm}, "( $": {2, api.ErrForm}, "!": {1, api.ErrForm}, "! ": {2, api.ErrForm}, "*": {0, api.ErrForm}, "a : b": {2, api.ErrForm},
		strings.Repeat("a", 33): {0, api.ErrForm}, strings.Repeat(" ", 65537): {65536, api.ErrTooLarge}, strings.Repeat("!", 32) + "a": {33, api.ErrTooLarge}, strings.Repeat("a ", 1024): {2048, api.ErrTooLarge},
		strings.Repeat("a ", 1024) + ")": {2048, api.ErrForm}, strings.Repeat("a ", 1023): {0, api.OK}, strings.Repeat("(", 32000) + "a" + strings.Repeat(")", 32000): {0, api.OK}, strings.Repeat("(", 32000) + "a" + strings.Repeat(")", 31999): {63999 + 1, api.ErrForm},
		strings.Repeat("(!", 20000) + "a" + strings.Repeat(")", 20000): {60001, api.ErrTooLarge}, strings.Repeat("<a:", 16000) + strings.Repeat(">", 16000): {64000, api.ErrTooLarge}, strings.Repeat("a/(a ", 10000) + strings.Repeat(")", 10000): {60000, api.ErrTooLarge},
		strings.Repeat("(", 13000) + "a" + strings.Repeat("\"\"())", 10000): {63001, api.ErrForm}, strings.Repeat("!", 65536): {65536, api.ErrForm}, strings.Repeat("(", 65536): {65536, api.ErrForm}, strings.Repeat("/", 1022): {0, api.OK}, strings.Repeat("/", 1023): {1023, api.ErrTooLarge},
	} {
		got, at, e := parse.Expr(text)
		if at != want.at || e != want.e || e != api.OK && (len(got.Nodes) != 0 || got.Root != 0) {
			t.Errorf("%.60q: %v %v, not %v", text, at, e, want)
		}
	}
}

// reader reads S2's table by calls within calls.
type reader struct {
	words []lex.Word
	at    int
}

func (r *reader) is(kind uint8, ahead int) bool {
	return r.at+ahead < len(r.words) && r.words[r.at+ahead].Kind == kind
}

func (r *reader) take(kind uint8) bool {
	if r.is(kind, 0) {
		r.at++
		return true
	}
	return false
}

func (r *reader) head() bool { return r.is(lex.Name, 0) && r.is(lex.Arrow, 1) }

func (r *reader) choice() (api.Tree, bool) {
	var ways []api.Tree
	for {
		way, ok := r.seq()
		if !ok {
			return api.Tree{}, false
		}
		ways = append(ways, way)
		if !r.take(lex.Slash) {
			out, _ := expr.Choice(ways)
			return out, true
		}
	}
}

func (r *reader) begins() bool {
	for _, kind := range []uint8{lex.And, lex.Not, lex.Open, lex.Less, lex.Literal, lex.Class} {
		if r.is(kind, 0) {
			return true
		}
	}
	return r.is(lex.Name, 0) && !r.head()
}

func (r *reader) seq() (api.Tree, bool) {
	var parts []api.Tree
	for r.begins() {
		part, ok := r.prefix()
		if !ok {
			return api.Tree{}, false
		}
		parts = append(parts, part)
	}
	out, _ := expr.Seq(parts)
	return out, true
}

func (r *reader) prefix() (api.Tree, bool) {
	for _, kind := range []uint8{lex.And, lex.Not} {
		if r.take(kind) {
			kid, ok := r.prefix()
			if !ok {
				return api.Tree{}, false
			}
			if kind == lex.And {
				return expr.And(kid)
			}
			return expr.Not(kid)
		}
	}
	out, ok := r.primary()
	for ok && r.at < len(r.words) {
		w := r.words[r.at]
		switch w.Kind {
		case lex.Question:
			out, _ = expr.Rep(out, 0, 1)
		case lex.Star:
			out, _ = expr.Rep(out, 0, -1)
		case lex.Plus:
			out, _ = expr.Rep(out, 1, -1)
		case lex.Count:
			out, _ = expr.Rep(out, w.Low, w.High)
		default:
			return out, true
		}
		r.at++
	}
	return out, ok
}

func (r *reader) primary() (api.Tree, bool) {
	if !r.begins() || r.is(lex.And, 0) || r.is(lex.Not, 0) {
		return api.Tree{}, false
	}
	w := r.words[r.at]
	r.at++
	switch w.Kind {
	case lex.Open:
		out, ok := r.choice()
		return out, ok && r.take(lex.Close)
	case lex.Less:
		if !r.is(lex.Name, 0) {
			return api.Tree{}, false
		}
		name := r.words[r.at].Text
		r.at++
		if !r.take(lex.Colon) {
			return api.Tree{}, false
		}
		kid, ok := r.choice()
		if !ok || !r.take(lex.Greater) {
			return api.Tree{}, false
		}
		return expr.Cap(name, kid)
	case lex.Literal:
		if w.Text == "" {
			return tree.Empty(), true
		}
		return tree.Text(w.Text), true
	case lex.Class:
		return tree.Set(w.Set), true
	}
	return tree.Rule(w.Text), true
}

// ahead is the words of a text up to what is none, and where that is (its length: there is none such).
func ahead(text string) ([]lex.Word, int) {
	words, at, e := lex.Words(text)
	if e == api.OK {
		return words, len(text)
	}
	words, _, _ = lex.Words(text[:at])
	return words, at
}

// grammar is what a text denotes, and the place of an ErrForm (-1: there is none).
func grammar(text string) ([]api.Def, int) {
	words, end := ahead(text)
	r := &reader{words: words}
	place := func() int {
		if r.at < len(words) {
			return words[r.at].At
		}
		return end
	}
	var out []api.Def
	for r.at < len(words) || len(out) == 0 {
		if !r.is(lex.Name, 0) {
			return nil, place()
		}
		name := words[r.at].Text
		r.at++
		if !r.take(lex.Arrow) {
			return nil, place()
		}
		body, ok := r.choice()
		if !ok {
			return nil, place()
		}
		out = append(out, api.Def{Name: name, Body: body})
	}
	if end < len(text) {
		return nil, end
	}
	return out, -1
}

// noise is a text of words in a row of its own.
func noise(s *sample.Source) string {
	text := ""
	if !s.OneIn(5) {
		text = "a <- "
	}
	for range s.Below(14) {
		text += []string{"a", "b", "a <-", "b <- ", "/", "&", "!", "?", "*", "+", "{1,2}", "(", ")", "( a )", "(", ")", "<", ">", ":", "<n:", ">", "<m: a>", "\"x\"", "\"\"", "[a-c]", ".", "$", "#\n", "a", "\"y\"", "<-", "b"}[s.Below(32)]
		text += []string{"", " ", "\n", "  "}[s.Below(4)]
	}
	return text
}

func TestAgainstTheTable(t *testing.T) {
	s := sample.New(71)
	var told [48]int
	for range 60000 {
		text := noise(s)
		want, place := grammar(text)
		g, at, e := parse.Grammar(text)
		told[e]++
		names := parse.Names(text)
		if place >= 0 {
			if e != api.ErrForm || at != place || len(g.Rules) != 0 || len(names) != 0 {
				t.Fatalf("%q: %v at %v, not at %v", text, e, at, place)
			}
			cut, _ := ahead(text[:at])
			if _, again, e := parse.Grammar(text[:at]); e == api.ErrForm && again < at && len(cut) > 0 {
				t.Fatalf("%q: cut at %v there is an error at %v", text, at, again)
			}
			continue
		}
		if e == api.ErrForm || len(names) != len(want) {
			t.Fatalf("%q: %v at %v", text, e, at)
		}
		for i, d := range want {
			if names[i] != d.Name {
				t.Fatalf("%q: names %v", text, names)
			}
			if e == api.OK && (g.Rules[i].Name != d.Name || !tree.Same(g.Rules[i].Body, d.Body) || !expr.Normal(d.Body)) {
				t.Fatalf("%q: rule %v is %v", text, d.Name, g.Rules[i].Body)
			}
		}
		if e == api.OK && (at != 0 || len(g.Rules) != len(want)) {
			t.Fatalf("%q: %v", text, g)
		}
		if e, at := named(text, want); e != api.OK {
			if got, place, f := parse.Grammar(text); f != e || place != at || len(got.Rules) != 0 {
				t.Fatalf("%q: %v at %v, not %v at %v", text, f, place, e, at)
			}
		}
	}
	for _, e := range []api.Errno{api.OK, api.ErrForm, api.ErrTwice, api.ErrName} {
		if told[e] < 200 {
			t.Error("too seldom:", e, told[e])
		}
	}
}

// named looks for a name that is twice there, and for one that is called, and not there, word by word.
func named(text string, defs []api.Def) (api.Errno, int) {
	words, _, _ := lex.Words(text)
	heads := map[string]int{}
	for i, w := range words {
		if w.Kind == lex.Name && i+1 < len(words) && words[i+1].Kind == lex.Arrow {
			if heads[w.Text]++; heads[w.Text] == 2 {
				return api.ErrTwice, w.At
			}
		}
	}
	for i, w := range words {
		captures := i > 0 && words[i-1].Kind == lex.Less && words[i+1].Kind == lex.Colon
		if w.Kind == lex.Name && heads[w.Text] == 0 && !captures {
			return api.ErrName, w.At
		}
	}
	return api.OK, 0
}

func TestExprAgainstTheTable(t *testing.T) {
	s := sample.New(72)
	ok := 0
	for range 30000 {
		text := noise(s)
		if s.OneIn(2) {
			text = strings.ReplaceAll(text, "<-", "")
		}
		words, end := ahead(text)
		r := &reader{words: words}
		want, fits := r.choice()
		got, at, e := parse.Expr(text)
		if fits && r.at == len(words) && end == len(text) {
			ok++
			if e != api.OK || at != 0 || !tree.Same(got, want) {
				t.Fatalf("%q: %v %v", text, at, e)
			}
			brackets(t, text, got)
			continue
		}
		place := end
		if r.at < len(words) {
			place = words[r.at].At
		}
		if e != api.ErrForm || at != place || len(got.Nodes) != 0 {
			t.Fatalf("%q: %v %v, not at %v", text, e, at, place)
		}
	}
	if ok < 1500 {
		t.Fatal(ok)
	}
}

func brackets(t *testing.T, text string, want api.Tree) {
	t.Helper()
	got, _, e := parse.Expr("((" + text + "\n))")
	if e != api.OK || !tree.Same(got, want) {
		t.Fatalf("%q in parentheses: %v", text, got)
	}
	two, _ := expr.Choice([]api.Tree{want, tree.Rule("z")})
	if got, _, e = parse.Expr(text + "\n/z"); e != api.OK || !tree.Same(got, two) {
		t.Fatalf("%q / z: %v", text, got)
	}
	two, _ = expr.Seq([]api.Tree{want, want})
	if got, _, e = parse.Expr("(" + text + "\n)(" + text + "\n)"); e != api.OK || !tree.Same(got, two) {
		t.Fatalf("%q twice: %v", text, got)
	}
}

func TestBlanksAndOneByOne(t *testing.T) {
	s := sample.New(73)
	tried := 0
	for range 20000 {
		text := noise(s)
		g, _, e := parse.Grammar(text)
		if e != api.OK {
			continue
		}
		words, _, _ := lex.Words(text)
		parted := " # x <- (\n"
		for _, w := range words {
			parted += text[w.At:w.To] + s.Word(s.Below(3), " \t\r\n") + "#\"\n"
		}
		again, at, e := parse.Grammar(parted)
		if e != api.OK || at != 0 || !reflect.DeepEqual(again, g) {
			t.Fatalf("%q, parted: %v", text, again)
		}
		tried++
		more, _, e := parse.Grammar(text + "\nq <- q / r\nr <- <a: >")
		if e != api.OK || len(more.Rules) != len(g.Rules)+2 || !reflect.DeepEqual(more.Rules[:len(g.Rules)], g.Rules) || more.Rules[len(g.Rules)].Name != "q" {
			t.Fatalf("%q, and others behind: %v", text, more)
		}
	}
	if tried < 500 {
		t.Fatal(tried)
	}
}

func TestNames(t *testing.T) {
	if got := parse.Names("a <- q b <- a <- z"); !reflect.DeepEqual(got, []string{"a", "b", "a"}) {
		t.Error(got)
	}
	rules := strings.Repeat("n <- \n", 100)
	if got := parse.Names(rules); len(got) != 100 || got[99] != "n" {
		t.Error(got)
	}
	if got := parse.Names("a <- " + strings.Repeat("!", 40) + "a"); len(got) != 1 {
		t.Error(got)
	}
	for _, text := range []string{"", "a", "a <- (", "a <- b <- )", "a <- $", "a <- " + strings.Repeat(" ", 65536)} {
		if got := parse.Names(text); len(got) != 0 {
			t.Errorf("%.20q: %v", text, got)
		}
	}
}
