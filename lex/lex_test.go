package lex_test

import (
	"strings"
	"testing"

	"bonsai/api"
	"bonsai/lex"
	"bonsai/quote"
	"bonsai/sample"
	"bonsai/set"
)

func all() api.Bytes { return set.All() }

func words(t *testing.T, text string, want ...lex.Word) {
	t.Helper()
	got, at, e := lex.Words(text)
	if e != api.OK || at != 0 || len(got) != len(want) {
		t.Fatalf("%q: %v %v %v", text, got, at, e)
	}
	for i, w := range want {
		if got[i] != w {
			t.Fatalf("%q: %v, not %v", text, got[i], w)
		}
	}
}

func TestExamples(t *testing.T) {
	words(t, "a<-b#c\n/{2,}",
		lex.Word{Kind: lex.Name, To: 1, Text: "a"}, lex.Word{Kind: lex.Arrow, At: 1, To: 3}, lex.Word{Kind: lex.Name, At: 3, To: 4, Text: "b"},
		lex.Word{Kind: lex.Slash, At: 7, To: 8}, lex.Word{Kind: lex.Count, At: 8, To: 12, Low: 2, High: -1})
	words(t, ".", lex.Word{Kind: lex.Class, To: 1, Set: all()})
	words(t, "")
	words(t, " \t\r\n#x\n #")
	words(t, "/&!?*+()<>:<-<", kinds(lex.Slash, lex.And, lex.Not, lex.Question, lex.Star, lex.Plus, lex.Open, lex.Close, lex.Less, lex.Greater, lex.Colon, lex.Arrow, lex.Less)...)
	words(t, "<<->", kinds(lex.Less, lex.Arrow, lex.Greater)...)
	words(t, "\"a#b\"[#]", lex.Word{Kind: lex.Literal, To: 5, Text: "a#b"}, lex.Word{Kind: lex.Class, At: 5, To: 8, Set: set.Of("#")})
	words(t, "\"\"\"\\n\"", lex.Word{Kind: lex.Literal, To: 2}, lex.Word{Kind: lex.Literal, At: 2, To: 6, Text: "\n"})
	words(t, "[^a][][^][a-c]", lex.Word{Kind: lex.Class, To: 4, Set: set.Not(set.Of("a"))}, lex.Word{Kind: lex.Class, At: 4, To: 6},
		lex.Word{Kind: lex.Class, At: 6, To: 9, Set: all()}, lex.Word{Kind: lex.Class, At: 9, To: 14, Set: set.Range('a', 'c')})
	words(t, "{0}{7,7}{0,99}{99,}", lex.Word{Kind: lex.Count, To: 3}, lex.Word{Kind: lex.Count, At: 3, To: 8, Low: 7, High: 7},
		lex.Word{Kind: lex.Count, At: 8, To: 14, High: 99}, lex.Word{Kind: lex.Count, At: 14, To: 19, Low: 99, High: -1})
	words(t, "a1_Z.b", lex.Word{Kind: lex.Name, To: 4, Text: "a1_Z"}, lex.Word{Kind: lex.Class, At: 4, To: 5, Set: all()}, lex.Word{Kind: lex.Name, At: 5, To: 6, Text: "b"})
	long := strings.Repeat("n", 32)
	words(t, long, lex.Word{Kind: lex.Name, To: 32, Text: long})
	long = strings.Repeat("x", 255)
	words(t, "\""+long+"\"", lex.Word{Kind: lex.Literal, To: 257, Text: long})
}

// kinds is words of signs, one right behind the other.
func kinds(l ...uint8) []lex.Word {
	var out []lex.Word
	at := 0
	for _, kind := range l {
		to := at + 1
		if kind == lex.Arrow {
			to++
		}
		out = append(out, lex.Word{Kind: kind, At: at, To: to})
		at = to
	}
	return out
}

func TestErrors(t *testing.T) {
	for text, want := range map[string]int{
		"< -": 2, "{2,1}": 0, "x \"ab": 2, "-": 0, "a - b": 2, "1": 0, "a 1b": 2, "a\x00": 1, "é": 0, "]": 0, "}": 0, "a }": 2, "'": 0, "\\": 0, "\f": 0, "\v": 0, "\xa0": 0, "\xef\xbb\xbfa": 0,
		"{": 0, "{}": 0, "{,}": 0, "{,1}": 0, "{1": 0, "{1,": 0, "{1,2": 0, "{ 1}": 0, "{1 }": 0, "{1, 2}": 0, "{01}": 0, "{00}": 0, "{1,01}": 0, "{100}": 0, "{1,100}": 0, "{100,}": 0,
		"{-1}": 0, "{1,-1}": 0, "{+1}": 0, "{a}": 0, "{1,2,3}": 0, "{1,,}": 0, "{9,8}": 0, "{99999999999999999999}": 0, "{1#\n}": 0, "{1\n}": 0,
		"a \"\\q\"": 2, "\"\t\"": 0, "\"a\nb\"": 0, "\"\\x1\"": 0, "\"\\]\"": 0, "[": 0, "a [b-a]": 2, "[a^]": 0, "[-]": 0, "[a-]": 0, "[\n]": 0, "[\\\"]": 0,
		"a " + strings.Repeat("n", 33):             2,
		"a \"" + strings.Repeat("x", 256) + "\" b": 2,
		"a # b\n $":                      7,
		"a # b $":                        -1,
		strings.Repeat(" ", 65536):       -1,
		strings.Repeat(" ", 65535) + "$": 65535,
	} {
		got, at, e := lex.Words(text)
		if want < 0 {
			if e != api.OK || at != 0 {
				t.Errorf("%.40q: %v %v", text, at, e)
			}
		} else if e != api.ErrForm || at != want || len(got) != 0 {
			t.Errorf("%.40q: %v %v %v", text, got, at, e)
		}
	}
	for _, text := range []string{strings.Repeat(" ", 65537), strings.Repeat("$", 65537), strings.Repeat("a ", 50000)} {
		if got, at, e := lex.Words(text); e != api.ErrTooLarge || at != api.MaxSource || len(got) != 0 {
			t.Errorf("too large: %v %v", at, e)
		}
	}
}

func TestMayAndShow(t *testing.T) {
	for _, row := range []struct {
		w    lex.Word
		want string
	}{
		{lex.Word{Kind: lex.Name, Text: "ab_1"}, "ab_1"},
		{lex.Word{Kind: lex.Name, Text: "ab_1", At: -5, To: 99}, "ab_1"},
		{lex.Word{Kind: lex.Name}, ""}, {lex.Word{Kind: lex.Name, Text: "1"}, ""}, {lex.Word{Kind: lex.Name, Text: strings.Repeat("x", 33)}, ""},
		{lex.Word{Kind: lex.Name, Text: "a", Low: 1}, ""}, {lex.Word{Kind: lex.Name, Text: "a", High: -1}, ""}, {lex.Word{Kind: lex.Name, Text: "a", Set: set.Of("a")}, ""},
		{lex.Word{Kind: lex.Arrow}, "<-"}, {lex.Word{Kind: lex.Slash}, "/"}, {lex.Word{Kind: lex.And}, "&"}, {lex.Word{Kind: lex.Not}, "!"}, {lex.Word{Kind: lex.Question}, "?"},
		{lex.Word{Kind: lex.Star}, "*"}, {lex.Word{Kind: lex.Plus}, "+"}, {lex.Word{Kind: lex.Open}, "("}, {lex.Word{Kind: lex.Close}, ")"}, {lex.Word{Kind: lex.Less}, "<"},
		{lex.Word{Kind: lex.Greater}, ">"}, {lex.Word{Kind: lex.Colon}, ":"},
		{lex.Word{Kind: lex.Arrow, Text: "<-"}, ""}, {lex.Word{Kind: lex.Slash, Low: 1}, ""}, {lex.Word{Kind: lex.Colon, High: 1}, ""}, {lex.Word{Kind: lex.Greater, Set: set.Of(">")}, ""},
		{lex.Word{Kind: lex.Count}, "{0}"}, {lex.Word{Kind: lex.Count, Low: 3, High: 3}, "{3}"}, {lex.Word{Kind: lex.Count, Low: 3, High: -1}, "{3,}"}, {lex.Word{Kind: lex.Count, High: 1}, "{0,1}"},
		{lex.Word{Kind: lex.Count, High: -1}, "{0,}"}, {lex.Word{Kind: lex.Count, Low: 1, High: 99}, "{1,99}"}, {lex.Word{Kind: lex.Count, Low: 99, High: 99}, "{99}"},
		{lex.Word{Kind: lex.Count, Low: 3, High: 2}, ""}, {lex.Word{Kind: lex.Count, Low: -1, High: 2}, ""}, {lex.Word{Kind: lex.Count, Low: -1, High: -1}, ""}, {lex.Word{Kind: lex.Count, High: -2}, ""},
		{lex.Word{Kind: lex.Count, High: 100}, ""}, {lex.Word{Kind: lex.Count, Low: 100, High: -1}, ""}, {lex.Word{Kind: lex.Count, Text: "{0}"}, ""}, {lex.Word{Kind: lex.Count, Set: set.Of("1")}, ""},
		{lex.Word{Kind: lex.Literal}, "\"\""}, {lex.Word{Kind: lex.Literal, Text: "a\"\n\x00"}, "\"a\\\"\\n\\x00\""}, {lex.Word{Kind: lex.Literal, Text: strings.Repeat("x", 255)}, "\"" + strings.Repeat("x", 255) + "\""},
		{lex.Word{Kind: lex.Literal, Text: strings.Repeat("x", 256)}, ""}, {lex.Word{Kind: lex.Literal, Low: 1}, ""}, {lex.Word{Kind: lex.Literal, Set: set.Of("1")}, ""},
		{lex.Word{Kind: lex.Class}, "[]"}, {lex.Word{Kind: lex.Class, Set: all()}, "."}, {lex.Word{Kind: lex.Class, Set: set.Of("-abcd")}, "[\\-a-d]"}, {lex.Word{Kind: lex.Class, Text: "a"}, ""}, {lex.Word{Kind: lex.Class, Low: 1}, ""},
		{lex.Word{}, ""}, {lex.Word{Kind: lex.Class + 1}, ""}, {lex.Word{Kind: 255}, ""},
	} {
		if got := lex.Show(row.w); got != row.want || lex.May(row.w) != (row.want != "") {
			t.Errorf("%v: %q %v", row.w, got, lex.May(row.w))
		}
	}
}

// word is a word that may be, mostly; if not it is said.
func word(s *sample.Source) lex.Word {
	w := lex.Word{Kind: lex.Name + uint8(s.Below(16)), At: s.Below(9), To: s.Below(9)}
	switch w.Kind {
	case lex.Name:
		w.Text = "_" + s.Word(s.Below(9), "aZ09_")
	case lex.Literal:
		w.Text = s.Bytes(s.Below(9))
	case lex.Class:
		w.Set = s.Set()
	case lex.Count:
		w.Low = s.Below(100)
		w.High = w.Low + s.Below(100-w.Low)
		if s.OneIn(3) {
			w.High = -1
		}
	}
	return w
}

func TestThereAndBack(t *testing.T) {
	s := sample.New(61)
	for range 3000 {
		var l []lex.Word
		var texts []string
		for range s.Below(12) {
			w := word(s)
			l = append(l, w)
			texts = append(texts, lex.Show(w))
		}
		joined := lex.Join(l)
		if joined != strings.Join(texts, " ") {
			t.Fatal("Join", l, joined)
		}
		got, at, e := lex.Words(joined)
		if e != api.OK || at != 0 || !lex.Same(got, l) {
			t.Fatalf("%q: %v, not %v", joined, got, l)
		}
		from := 0
		for i, w := range got {
			if w.At != from || w.To != from+len(texts[i]) {
				t.Fatalf("%q: a word that stands elsewhere: %v", joined, w)
			}
			from = w.To + 1
		}
		parted := ""
		for _, text := range texts {
			parted += s.Word(s.Below(3), " \t\r\n") + []string{"", "#x\"\n", " "}[s.Below(3)] + "\n" + text
		}
		again, _, e := lex.Words(parted + " # end")
		if e != api.OK || !lex.Same(again, l) {
			t.Fatalf("parted anew: %q", parted)
		}
		if len(l) > 0 {
			l[s.Below(len(l))].Kind = 0
			if lex.Join(l) != "" {
				t.Fatal("Join with one that may not be")
			}
		}
	}
	if lex.Join(nil) != "" {
		t.Fatal("of none")
	}
}

func TestSame(t *testing.T) {
	a := []lex.Word{{Kind: lex.Name, Text: "a", At: 3, To: 4}, {Kind: 99, Low: -7}}
	b := []lex.Word{{Kind: lex.Name, Text: "a"}, {Kind: 99, Low: -7, To: 8}}
	if !lex.Same(a, b) || !lex.Same(b, a) || !lex.Same(nil, []lex.Word{}) || lex.Same(a, a[:1]) || lex.Same(nil, a) {
		t.Error("Same")
	}
	for _, change := range []func(w *lex.Word){
		func(w *lex.Word) { w.Kind++ }, func(w *lex.Word) { w.Text += "x" }, func(w *lex.Word) { w.Set[3] = 1 }, func(w *lex.Word) { w.Low++ }, func(w *lex.Word) { w.High-- },
	} {
		c := []lex.Word{b[0], b[1]}
		change(&c[1])
		if lex.Same(a, c) || lex.Same(c, a) {
			t.Error("not the same", c)
		}
	}
	if a[0].At != 3 || b[1].To != 8 {
		t.Error("changed")
	}
}

// parts tells whether a text has nothing but what parts words.
func parts(text string) bool {
	for line := range strings.Lines(text) {
		line, _, _ = strings.Cut(line, "#")
		if strings.Trim(line, " \t\r\n") != "" {
			return false
		}
	}
	return true
}

func TestPlaces(t *testing.T) {
	s := sample.New(62)
	wrong := 0
	for range 30000 {
		text := ""
		for range s.Below(8) {
			text += []string{"a", "B1", "<", "-", "<-", "{1}", "{2,", "3}", "{1,1}", "\"a\"", "\"", "[^a-b]", "[", "]", " ", "\n", "#", "/", "(", "\\", "0", "!", ":", ">", "\x80"}[s.Below(25)]
		}
		got, at, e := lex.Words(text)
		if e != api.OK {
			wrong++
			if e != api.ErrForm || at < 0 || at > len(text) || len(got) != 0 {
				t.Fatalf("%q: %v %v", text, at, e)
			}
			if got, _, e = lex.Words(text[:at]); e != api.OK {
				t.Fatalf("%q: the text ahead of %v has %v", text, at, e)
			}
			if _, next, e := lex.Words(text[at:]); e != api.ErrForm || next != 0 {
				t.Fatalf("%q: no word begins at %v", text, at)
			}
			text = text[:at]
		}
		from := 0
		for _, w := range got {
			if w.At < from || w.To <= w.At || w.To > len(text) || !parts(text[from:w.At]) || !lex.May(w) {
				t.Fatalf("%q: %v", text, w)
			}
			if one, _, e := lex.Words(text[w.At:w.To]); e != api.OK || len(one) != 1 || !lex.Same(one, []lex.Word{w}) {
				t.Fatalf("%q: %v is not that word", text, w)
			}
			from = w.To
		}
		if !parts(text[from:]) {
			t.Fatalf("%q: what is left", text)
		}
	}
	if wrong < 5000 || wrong > 29000 {
		t.Fatal(wrong)
	}
}

func TestQuote(t *testing.T) {
	s := sample.New(63)
	for range 2000 {
		literal, class := s.Bytes(s.Below(20)), s.Set()
		text := quote.Literal(literal) + quote.Class(class)
		got, _, e := lex.Words(text)
		if e != api.OK || len(got) != 2 || got[0].Text != literal || got[1].Set != class {
			t.Fatalf("%q: %v", text, got)
		}
	}
}

func TestNumbers(t *testing.T) {
	for i, kind := range []uint8{lex.Name, lex.Arrow, lex.Slash, lex.And, lex.Not, lex.Question, lex.Star, lex.Plus, lex.Open, lex.Close, lex.Less, lex.Greater, lex.Colon, lex.Count, lex.Literal, lex.Class} {
		if int(kind) != i+1 {
			t.Error(i, kind)
		}
	}
}
