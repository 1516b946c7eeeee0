package span_test

import (
	"reflect"
	"strings"
	"testing"

	"bonsai/api"
	"bonsai/name"
	"bonsai/sample"
	"bonsai/span"
)

func match(to int, l ...api.Capture) api.Outcome {
	return api.Outcome{OK: true, To: to, Captures: l}
}

func c(name string, from, to int) api.Capture {
	return api.Capture{Name: name, From: from, To: to}
}

// may is the chapter's words, of each two captures.
func may(o api.Outcome, n int) bool {
	if n < 0 || n > api.MaxInput || !o.OK {
		return n >= 0 && n <= api.MaxInput && o.To == 0 && len(o.Captures) == 0
	}
	if o.To < 0 || o.To > n || len(o.Captures) > api.MaxCaps {
		return false
	}
	for j, b := range o.Captures {
		if !name.May(b.Name) || b.From < 0 || b.To < b.From || b.To > o.To {
			return false
		}
		for _, a := range o.Captures[:j] {
			if b.From < a.From || b.To > a.To && b.From < a.To {
				return false
			}
		}
	}
	return true
}

func TestExamples(t *testing.T) {
	o := match(5, c("n", 0, 5), c("m", 1, 2), c("m", 2, 2))
	if !span.May(o, 5) || !span.May(o, 6) || span.May(o, 4) || span.May(match(5, c("m", 0, 2), c("m", 1, 3)), 9) {
		t.Error("May")
	}
	if s, e := span.Show(o); e != api.OK || s != "match 5\nn 0 5\nm 1 2\nm 2 2\n" {
		t.Errorf("%q %v", s, e)
	}
	if got := span.Texts(o, "abcde", "m"); !reflect.DeepEqual(got, []string{"b", ""}) {
		t.Error(got)
	}
	if got := span.Texts(o, "abcde", "n"); !reflect.DeepEqual(got, []string{"abcde"}) {
		t.Error(got)
	}
	if len(span.Texts(o, "abcd", "m")) != 0 || len(span.Texts(o, "abcde", "x")) != 0 || len(span.Texts(span.Fail(), "a", "m")) != 0 || len(span.Texts(match(1, c("m", 1, 0)), "a", "m")) != 0 {
		t.Error("Texts of none")
	}
	if o := span.Fail(); o.OK || o.To != 0 || len(o.Captures) != 0 {
		t.Error(o)
	}
	if o := span.At(-7); !o.OK || o.To != -7 || len(o.Captures) != 0 {
		t.Error(o)
	}
}

func TestMay(t *testing.T) {
	for i, row := range []struct {
		o    api.Outcome
		n    int
		want bool
	}{
		{span.Fail(), 0, true}, {span.Fail(), 4096, true}, {span.Fail(), -1, false}, {span.Fail(), 4097, false}, {api.Outcome{To: 1}, 5, false}, {api.Outcome{Captures: []api.Capture{c("a", 0, 0)}}, 5, false}, {api.Outcome{Captures: []api.Capture{}}, 5, true},
		{match(0), 0, true}, {match(-1), 5, false}, {match(4096), 4096, true}, {match(4097), 4096, false}, {match(4097), 4097, false}, {match(1), 0, false}, {match(0), -1, false},
		{match(3, c("", 0, 1)), 3, false}, {match(3, c("1", 0, 1)), 3, false}, {match(3, c(strings.Repeat("x", 33), 0, 1)), 3, false}, {match(3, c(strings.Repeat("x", 32), 0, 1)), 3, true}, {match(3, c("a", -1, 1)), 3, false}, {match(3, c("a", 2, 1)), 3, false}, {match(3, c("a", 2, 4)), 9, false}, {match(3, c("a", 3, 3)), 3, true}, {match(3, c("a", 4, 4)), 9, false},
		{match(9, c("a", 0, 3), c("a", 0, 3)), 9, true}, {match(9, c("a", 0, 3), c("a", 0, 4)), 9, false}, {match(9, c("a", 2, 3), c("a", 1, 1)), 9, false}, {match(9, c("a", 2, 2), c("a", 2, 5)), 9, true}, {match(9, c("a", 0, 9), c("a", 2, 2), c("a", 2, 5), c("a", 5, 9)), 9, true}, {match(9, c("a", 0, 5), c("b", 1, 3), c("b", 3, 6)), 9, false}, {match(9, c("a", 0, 5), c("b", 1, 3), c("b", 5, 6)), 9, true},
		{match(9, c("a", 0, 5), c("b", 1, 3), c("b", 2, 4)), 9, false}, {match(9, c("a", 1, 5), c("b", 0, 9)), 9, false},
	} {
		if got := span.May(row.o, row.n); got != row.want || may(row.o, row.n) != row.want {
			t.Error(i, got)
		}
	}
	many := match(9)
	for range api.MaxCaps {
		many.Captures = append(many.Captures, c("a", 1, 1))
	}
	if !span.May(many, 9) {
		t.Error("MaxCaps")
	}
	if text, e := span.Show(many); e != api.OK {
		t.Error(e)
	} else if back, e := span.Parse(text); e != api.OK || !span.Same(back, many) {
		t.Error("MaxCaps, back")
	} else if o, e := span.Parse(text + "a 1 1\n"); e != api.ErrForm || !span.Same(o, span.Fail()) {
		t.Error("more than MaxCaps, read", e)
	}
	if more := span.Cap("a", 1, many); span.May(more, 9) || len(more.Captures) != api.MaxCaps+1 {
		t.Error("more than MaxCaps")
	}
}

// row is captures within a piece, in a row.
func row(s *sample.Source, from, to, depth int) []api.Capture {
	var out []api.Capture
	for at := from; s.Below(3) > 0 && len(out) < 5; {
		begin := at + s.Below(to-at+1)
		end := begin + s.Below(to-begin+1)
		out = append(out, c(s.Word(1, "mn"), begin, end))
		if depth > 0 {
			out = append(out, row(s, begin, end, depth-1)...)
		}
		at = end
	}
	return out
}

func outcome(s *sample.Source, from, to int) api.Outcome {
	if s.OneIn(9) {
		return span.Fail()
	}
	return match(to, row(s, from, to, 3)...)
}

func TestWords(t *testing.T) {
	s := sample.New(141)
	var told [2]int
	for range 20000 {
		o := outcome(s, 0, s.Below(8))
		for range s.Below(2) {
			if len(o.Captures) > 0 {
				x := &o.Captures[s.Below(len(o.Captures))]
				x.From += s.Below(3) - 1
				x.To += s.Below(3) - 1
			}
		}
		want := may(o, 8)
		if span.May(o, 8) != want {
			t.Fatal(o, want)
		}
		text, e := span.Show(o)
		if (e == api.OK) != want || e != api.OK && (e != api.ErrForm || text != "") {
			t.Fatal(o, text, e)
		}
		if !want {
			told[0]++
			continue
		}
		told[1]++
		written := "fail\n"
		if o.OK {
			written = "match " + name.Show(o.To) + "\n"
			for _, c := range o.Captures {
				written += c.Name + " " + name.Show(c.From) + " " + name.Show(c.To) + "\n"
			}
		}
		back, e := span.Parse(text)
		if text != written || e != api.OK || !span.Same(back, o) || !span.Same(o, back) {
			t.Fatalf("%q %v", text, back)
		}
		shifted(t, s, o)
	}
	if told[0] < 1000 || told[1] < 5000 {
		t.Fatal(told)
	}
}

func shifted(t *testing.T, s *sample.Source, o api.Outcome) {
	t.Helper()
	by := []int{0, 1, -1, -3, 5, 4090, 4088, 4096, -4096, 1 << 62, -1 << 63, 1<<63 - 1}[s.Below(12)]
	low, high := o.To, o.To
	for _, c := range o.Captures {
		low, high = min(low, c.From), max(high, c.To)
	}
	fits := !o.OK || by >= -low && by <= api.MaxInput-high
	got, ok := span.Shift(o, by)
	if ok != fits || !ok && !span.Same(got, span.Fail()) {
		t.Fatal("Shift", o, by, got)
	}
	if !ok {
		return
	}
	want := span.Copy(o)
	if o.OK {
		want.To += by
		for i := range want.Captures {
			want.Captures[i].From += by
			want.Captures[i].To += by
		}
	}
	if !span.Same(got, want) || !span.May(got, api.MaxInput) {
		t.Fatal("Shift", o, by, got)
	}
	if back, ok := span.Shift(got, -by); !ok || !span.Same(back, o) {
		t.Fatal("back", o, by)
	}
}

func TestShiftWrong(t *testing.T) {
	for i, o := range []api.Outcome{{To: 1}, match(-1), match(4097), match(2, c("", 0, 1)), match(2, c("a", 0, 3)), {Captures: []api.Capture{c("a", 0, 0)}}} {
		if got, ok := span.Shift(o, 0); ok || !span.Same(got, span.Fail()) {
			t.Error(i)
		}
		if s, e := span.Show(o); e != api.ErrForm || s != "" {
			t.Error(i, s, e)
		}
	}
}

func TestTogether(t *testing.T) {
	s := sample.New(142)
	for range 5000 {
		i, j, k := s.Below(4), 4+s.Below(4), 8+s.Below(4)
		a, b, d := outcome(s, 0, i), outcome(s, i, j), outcome(s, j, k)
		ab, bd := span.Join(a, b), span.Join(b, d)
		if !span.May(ab, 20) || !span.Same(span.Join(ab, d), span.Join(a, bd)) {
			t.Fatal("Join", a, b, d)
		}
		want := match(b.To, append(append([]api.Capture{}, a.Captures...), b.Captures...)...)
		if !a.OK || !b.OK {
			want = span.Fail()
		}
		if !span.Same(ab, want) {
			t.Fatal("Join", a, b, ab)
		}
		got := span.Cap("q", i, b)
		want = match(b.To, append([]api.Capture{c("q", i, b.To)}, b.Captures...)...)
		if !b.OK {
			want = span.Fail()
		}
		if !span.Same(got, want) || !span.May(got, 20) {
			t.Fatal("Cap", b, got)
		}
		before := span.Copy(a)
		outs := []api.Outcome{ab, span.Copy(a), span.Cap("q", 0, a), span.Join(a, span.At(9))}
		if moved, ok := span.Shift(a, 1); ok {
			outs = append(outs, moved)
		}
		for _, o := range outs {
			o.Captures = append(o.Captures, c("z", 9, 9))
			for i := range o.Captures {
				o.Captures[i] = c("zz", -5, -5)
			}
		}
		if !span.Same(a, before) {
			t.Fatal("memory is shared")
		}
	}
	odd := api.Outcome{To: 3, Captures: []api.Capture{c("a", 1, 2)}}
	if !span.Same(span.Join(odd, match(1)), span.Fail()) || !span.Same(span.Join(match(1), odd), span.Fail()) || !span.Same(span.Cap("a", 0, odd), span.Fail()) {
		t.Error("of a failure that has something else")
	}
	if !span.Same(span.Copy(odd), odd) || span.Same(odd, span.Fail()) {
		t.Error("field by field")
	}
	if got := span.Cap("", -3, match(-9, c("", 7, 1))); !span.Same(got, match(-9, c("", -3, -9), c("", 7, 1))) {
		t.Error("of whatever outcomes", got)
	}
}

func TestSame(t *testing.T) {
	a := match(3, c("a", 1, 2), c("b", 2, 2))
	for i, b := range []api.Outcome{match(4, c("a", 1, 2), c("b", 2, 2)), match(3, c("a", 1, 2)), match(3, c("a", 1, 2), c("c", 2, 2)), match(3, c("a", 0, 2), c("b", 2, 2)), match(3, c("a", 1, 3), c("b", 2, 2)), {To: 3, Captures: a.Captures}, match(3, c("b", 2, 2), c("a", 1, 2))} {
		if span.Same(a, b) || span.Same(b, a) || !span.Same(b, b) {
			t.Error(i)
		}
	}
	if !span.Same(match(1), match(1, []api.Capture{}...)) {
		t.Error("no list, an empty one")
	}
}

func TestParseWrong(t *testing.T) {
	for _, s := range []string{"", "\n", "fail", "fail\n\n", "fail \n", " fail\n", "fail\nmatch 1\n", "fail\na 1 1\n", "match", "match\n", "match \n", "match 1", "match  1\n", "match 01\n", "match -1\n", "match 4097\n", "match 1 \n", "match 1 2\n", "Match 1\n", "match x\n",
		"match 1\n\n", "match 1\na 0 1", "match 1\na 0\n", "match 1\na 0 1 1\n", "match 1\na  0 1\n", "match 1\na 0  1\n", "match 1\na 00 1\n", "match 1\na 0 01\n", "match 1\n 0 1\n", "match 1\n1 0 1\n", "match 1\na 0 2\n", "match 1\na 1 0\n", "match 1\na 1 1\nb 0 0\n", "match 3\na 0 2\na 1 3\n", "match 1\r\n", "match 1\na 0 99999999999999999999\n", "match 1\nmatch 1\n"} {
		if o, e := span.Parse(s); e != api.ErrForm || !span.Same(o, span.Fail()) {
			t.Errorf("%q: %v %v", s, o, e)
		}
	}
	for _, s := range []string{"fail\n", "match 0\n", "match 4096\n", "match 2\nmatch 0 1\nfail 1 2\n"} {
		o, e := span.Parse(s)
		if back, _ := span.Show(o); e != api.OK || back != s {
			t.Errorf("%q: %v %v", s, o, e)
		}
	}
}
