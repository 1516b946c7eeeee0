package desk_test

import (
	"strings"
	"testing"

	"bonsai/api"
	"bonsai/check"
	"bonsai/cost"
	"bonsai/desk"
	"bonsai/diff"
	"bonsai/fuel"
	"bonsai/gram"
	"bonsai/log"
	"bonsai/name"
	"bonsai/optim"
	"bonsai/pack"
	"bonsai/parse"
	"bonsai/print"
	"bonsai/rail"
	"bonsai/sample"
	"bonsai/span"
	"bonsai/well"
)

func TestExamples(t *testing.T) {
	out, items, report, at, e := desk.Optimise("a <- b\nb <- \"x\"\n", "run inline:1 prune:1")
	if out != "a <- \"x\"\n" || items != "\x04\x00\x01\x01\x00\x00\x00\x00\x07\x01\x01\x00\x00" || report != "rules 2 1\nnodes 2 1\ncost 5 1\nsteps 2\ninline 1\nprune 1\n" || at != 0 || e != api.OK {
		t.Errorf("%q %q %q %v %v", out, items, report, at, e)
	}
	if out, used, at, e := desk.Match("a <- \"x\"*", "xx", 99); out != "match 2\n" || used != 7 || at != 0 || e != api.OK {
		t.Error(out, used, at, e)
	}
	out, items, report, at, e = desk.Optimise("a <- [a] / \"b\" / \"c\"", "cost")
	if out != "a <- [a-c]\n" || report != "rules 1 1\nnodes 4 1\ncost 10 1\nsteps 2\nmerge 2\n" || e != api.OK || at != 0 || !desk.Check("a <- [a] / \"b\" / \"c\"", out, items) {
		t.Error(out, report, e)
	}
	out, items, report, _, e = desk.Optimise(" a<-\"x\"  / ( b ) b <- .", "run")
	if out != "a <- \"x\" / b\nb <- .\n" || items != "\x00" || report != "rules 2 2\nnodes 4 4\ncost 11 11\nsteps 0\n" || e != api.OK {
		t.Error(out, items, report, e)
	}
	if f, at, e := desk.Enough("a <- \"x\" a / \"\"", "xx"); f != 108 || at != 0 || e != api.OK {
		t.Error(f, at, e)
	}
	if out, part, at, e := desk.Diff("a <- .", "a <- . b <- ."); out != "  a <- .\n+ b <- .\n" || part != 0 || at != 0 || e != api.OK {
		t.Error(out, part, at, e)
	}
	if out, at, e := desk.Draw("a <- \"\""); out != "size 2 0 1\nstroke 0,1 2,1\nlabel 0,0 a\n" || at != 0 || e != api.OK {
		t.Errorf("%q %v %v", out, at, e)
	}
}

// wrong is texts with what is wrong with them.
func wrong() map[string]struct {
	at int
	e  api.Errno
} {
	long := strings.Repeat(" ", 65537)
	big := "a <- " + strings.Repeat("\"x\" ", 1023) + "b <- ." // 1024 nodes, and one
	wide := "a <-" + strings.Repeat(" \""+strings.Repeat("x", 255)+"\"", 32)
	rules := ""
	for i := range 65 {
		rules += "r" + name.Show(i) + " <- .\n"
	}
	return map[string]struct {
		at int
		e  api.Errno
	}{
		"a <- b 'x' ..": {7, api.ErrForm}, "a <- b; ..": {6, api.ErrForm}, "": {0, api.ErrForm}, "a <- (b": {7, api.ErrForm}, "a <- b": {5, api.ErrName}, "a <- a a <- a": {7, api.ErrTwice}, long: {65536, api.ErrTooLarge}, "a <- a \"x\" / \"y\"": {16, api.ErrLeft}, "a <- (\"x\"?)*  ": {14, api.ErrLoop}, "a <- a (\"x\"?)*": {14, api.ErrLeft},
		big: {len(big), api.ErrTooLarge}, wide: {len(wide), api.ErrTooLarge}, rules: {len(rules), api.ErrTooLarge}, "a <- " + strings.Repeat("!", 32) + ".": {38, api.ErrTooLarge}, "a <- " + strings.Repeat("!", 32) + "a": {38, api.ErrTooLarge},
	}
}

func TestTexts(t *testing.T) {
	good, one := "a <- b b <- \"x\"", "a <- ."
	for text, want := range wrong() {
		g, at, e := desk.Read(text)
		if at != want.at || e != want.e || len(g.Rules) != 0 {
			t.Errorf("%.40q: Read: %v %v", text, at, e)
		}
		out, items, report, at, e := desk.Optimise(text, "what")
		if at != want.at || e != want.e || out+items+report != "" {
			t.Errorf("%.40q: Optimise: %v %v", text, at, e)
		}
		part, at, e := desk.Why(text, "(", "\x01")
		if at != want.at || e != want.e || part != 1 || desk.Check(text, good, "\x00") || desk.Check(text, text, "\x00") {
			t.Errorf("%.40q: Why: %v %v %v", text, part, at, e)
		}
		if part, at, e = desk.Why(good, text, "\x01"); at != want.at || e != want.e || part != 2 || desk.Check(good, text, "\x00") {
			t.Errorf("%.40q: Why: %v %v %v", text, part, at, e)
		}
		out, used, at, e := desk.Match(text, "x", -1)
		if at != want.at || e != want.e || out != "" || used != 0 {
			t.Errorf("%.40q: Match: %v %v", text, at, e)
		}
		n, at, e := desk.Enough(text, strings.Repeat("x", 5000))
		if at != want.at || e != want.e || n != 0 {
			t.Errorf("%.40q: Enough: %v %v", text, at, e)
		}
		out, part, at, e = desk.Diff(text, "(")
		if at != want.at || e != want.e || part != 1 || out != "" {
			t.Errorf("%.40q: Diff: %v %v %v", text, part, at, e)
		}
		if out, part, at, e = desk.Diff(one, text); at != want.at || e != want.e || part != 2 || out != "" {
			t.Errorf("%.40q: Diff: %v %v %v", text, part, at, e)
		}
		if out, at, e = desk.Draw(text); at != want.at || e != want.e || out != "" {
			t.Errorf("%.40q: Draw: %v %v", text, at, e)
		}
	}
}

func TestWrong(t *testing.T) {
	good := "a <- b b <- \"x\""
	for script, want := range map[string]struct {
		at int
		e  api.Errno
	}{"": {0, api.ErrOption}, "run deal:3": {4, api.ErrPass}, "run dead": {4, api.ErrOption}, "cost only:dead,dead": {5, api.ErrOption}, "cost rounds:1000": {16, api.ErrOption}, strings.Repeat(" ", 65537): {65536, api.ErrTooLarge}} {
		out, items, report, at, e := desk.Optimise(good, script)
		if at != want.at || e != want.e || out+items+report != "" {
			t.Errorf("%.40q: %v %v", script, at, e)
		}
	}
	inlined := "a <- \"x\" b <- \"x\""
	for items, want := range map[string]struct {
		part, at int
		e        api.Errno
	}{
		"": {3, 0, api.ErrShort}, "\x00\x00": {3, 0, api.ErrLong}, "\x80\x00": {3, 0, api.ErrForm}, "\xff\xff\x03": {3, 0, api.ErrTooLarge}, "\x00": {5, 0, api.ErrNone}, "\x01\x00": {5, 0, api.ErrNone}, "\x02\x00\x01\x01\x00\x00\x00": {0, 0, api.OK}, "\x01\x01\x01\x00\x00\x00": {0, 0, api.OK}, "\x01\x01\x01\x01\x00\x00": {4, 0, api.ErrStep}, "\x03\x00\x01\x01\x00\x00\x00\x01\x01\x00\x00\x00": {4, 2, api.ErrStep}, "\x01\x09\x01\x00\x00\x00": {4, 0, api.ErrStep}, "\x03\x00\x01\x01\x00\x00\x00\x07\x01\x01\x00\x00": {5, 0, api.ErrNone},
	} {
		part, at, e := desk.Why(good, inlined, items)
		if part != want.part || at != want.at || e != want.e || desk.Check(good, inlined, items) != (e == api.OK) {
			t.Errorf("%x: %v %v %v", items, part, at, e)
		}
	}
	for _, row := range []struct {
		input string
		fuel  int
		e     api.Errno
	}{{"x", 0, api.ErrFuel}, {"x", -1, api.ErrArg}, {"x", api.MaxFuel + 1, api.ErrArg}, {strings.Repeat("x", 4097), 1, api.ErrTooLarge}} {
		if out, used, at, e := desk.Match(good, row.input, row.fuel); out != "" || used != 0 || at != 0 || e != row.e {
			t.Error(row.fuel, e)
		}
	}
	if out, used, at, e := desk.Match("a <- <n: <m: \"\">{99}{0,99}{9}>", "", api.MaxFuel); out != "" || used != 0 || at != 0 || e != api.ErrTooLarge {
		t.Error(e)
	}
	if n, at, e := desk.Enough(good, strings.Repeat("x", 4097)); n != 0 || at != 0 || e != api.ErrTooLarge {
		t.Error(n, at, e)
	}
}

// script is a script's text.
func script(s *sample.Source) string {
	out := "run"
	if s.OneIn(2) {
		out = "cost rounds:" + name.Show(s.Below(4)) + " budget:" + name.Show(1+s.Below(4))
	} else {
		for range s.Below(5) {
			out += " " + optim.Name(uint8(1+s.Below(7))) + ":" + name.Show(s.Below(5))
		}
	}
	return out
}

func TestWhole(t *testing.T) {
	s := sample.New(321)
	tried := 0
	for range 1500 {
		text := print.Grammar(s.Grammar(1+s.Below(4), 1+s.Below(4)))
		g, at, e := desk.Read(text)
		want, place, f := parse.Grammar(text)
		if f == api.OK {
			place, f = 0, well.Check(want)
			if f != api.OK {
				place = len(text)
			}
		}
		if e != f || at != place || e == api.OK && !gram.Same(g, want) {
			t.Fatal(text, at, e, place, f)
		}
		if e != api.OK {
			continue
		}
		tried++
		optimised(t, s, text, g)
		input, with := s.Input(6), s.Below(200)
		o, used, e := pack.Match(g, input, with)
		shown, _ := span.Show(o)
		if e != api.OK {
			shown = ""
		}
		if out, u, at, f := desk.Match(text, input, with); out != shown || u != used || at != 0 || f != e {
			t.Fatal("Match", out, u, at, f)
		}
		n, _ := fuel.Enough(g, input)
		if m, at, e := desk.Enough(text, input); m != n || at != 0 || e != api.OK {
			t.Fatal("Enough", m, n)
		}
		d, _ := rail.Sheet(g)
		if out, at, e := desk.Draw(text); out != rail.Show(d) || at != 0 || e != api.OK {
			t.Fatal("Draw")
		}
	}
	if tried < 500 {
		t.Fatal(tried)
	}
}

func optimised(t *testing.T, s *sample.Source, text string, g api.Grammar) {
	t.Helper()
	sc := script(s)
	out, items, report, at, e := desk.Optimise(text, sc)
	if e != api.OK || at != 0 {
		t.Fatal(sc, at, e)
	}
	p, _, _ := optim.Parse(sc)
	h, l, _ := optim.Run(g, p)
	bytes, _ := log.Encode(l)
	if out != print.Grammar(h) || items != bytes {
		t.Fatal("Optimise", sc)
	}
	if !desk.Check(text, out, items) || !check.Goes(g, h, l) {
		t.Fatal("checked", sc)
	}
	if part, at, e := desk.Why(text, out, items); part != 0 || at != 0 || e != api.OK {
		t.Fatal("Why", part, at, e)
	}
	if back, _, e := desk.Read(out); e != api.OK || print.Grammar(back) != out {
		t.Fatal("canonical")
	}
	if part, at, e := desk.Why(out, text, items); e != api.OK && (part < 4 || at > len(l)) {
		t.Fatal("places", part, at, e)
	}
	want := "rules " + name.Show(len(g.Rules)) + " " + name.Show(len(h.Rules)) + "\nnodes " + name.Show(gram.Nodes(g)) + " " + name.Show(gram.Nodes(h)) + "\ncost " + name.Show(cost.Total(g)) + " " + name.Show(cost.Total(h)) + "\n"
	counts := [8]int{}
	for _, x := range log.Steps(l) {
		counts[x.Pass]++
	}
	want += "steps " + name.Show(len(log.Steps(l))) + "\n"
	for pass, n := range counts {
		if n > 0 {
			want += optim.Name(uint8(pass)) + " " + name.Show(n) + "\n"
		}
	}
	if report != want {
		t.Fatalf("%q, not %q", report, want)
	}
	input := s.Input(6)
	one, _, _, e1 := desk.Match(text, input, api.MaxFuel)
	two, _, _, e2 := desk.Match(out, input, api.MaxFuel)
	if one != two || e1 != e2 {
		t.Fatal("meaning", one, two)
	}
	if got, part, at, e := desk.Diff(text, out); got != diff.Report(g, h) || part != 0 || at != 0 || e != api.OK {
		t.Fatal("Diff")
	}
}

// TestTen is the document's ten examples.
func TestTen(t *testing.T) {
	if out, used, _, e := desk.Match("a <- \"x\" a / \"\"", "xx", 1000); out != "match 2\n" || used != 23 || e != api.OK {
		t.Error(1, out, used, e)
	}
	for i, row := range []struct{ text, script, out, lines string }{
		{"a <- b \"x\" b\nb <- \"y\"", "run inline:1", "a <- \"y\" \"x\" b\nb <- \"y\"\n", "mark, 1.1 0/0 @0"},
		{"a <- b\nb <- \"x\"", "run inline:9 prune:9", "a <- \"x\"\n", "mark, 1.1 0 @0, mark, 7.1 1 @0"},
		{"a <- \"x\" \"b\" / \"x\" \"c\"", "run factor:9", "a <- \"x\" (\"b\" / \"c\")\n", "mark, 3.2 0 @0"},
		{"a <- [a] / \"b\" / \"c\"", "cost", "a <- [a-c]\n", "mark, 5.1 0 @0, 5.1 0 @0, mark"},
		{"a <- !!\"x\" \"x\"", "run pred:9", "a <- \"x\"\n", "mark, 4.1 0/0 @0, 4.8 0 @0"},
		{"a <- \"x\"* \"x\"{0,3}", "run fuse:9", "a <- \"x\"*\n", "mark, 6.3 0 @0"},
	} {
		out, items, _, at, e := desk.Optimise(row.text, row.script)
		l, f := log.Decode(items)
		var lines []string
		for _, x := range l {
			lines = append(lines, log.Show(x))
		}
		if out != row.out || at != 0 || e != api.OK || f != api.OK || strings.Join(lines, ", ") != row.lines || !desk.Check(row.text, out, items) {
			t.Error(i+2, out, lines, at, e)
		}
	}
	for text, want := range map[string]struct {
		at int
		e  api.Errno
	}{"a <- a \"x\" / \"y\"": {16, api.ErrLeft}, "a <- (\"x\"?)*": {12, api.ErrLoop}, "a <- (\"x\"?){0,9}": {0, api.OK}, "a <- (b": {7, api.ErrForm}, "a <- b": {5, api.ErrName}, "a <- a a <- a": {7, api.ErrTwice}} {
		if _, at, e := desk.Read(text); at != want.at || e != want.e {
			t.Error(text, at, e)
		}
	}
	if out, _, _, e := desk.Match("a <- <n: \"p\" a / \"\">", "pp", 1000); out != "match 2\nn 0 2\nn 1 2\nn 2 2\n" || e != api.OK {
		t.Error(10, out, e)
	}
}
