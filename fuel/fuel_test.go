package fuel_test

import (
	"math/big"
	"strings"
	"testing"

	"bonsai/api"
	"bonsai/fuel"
	"bonsai/gram"
	"bonsai/pack"
	"bonsai/parse"
	"bonsai/sample"
	"bonsai/span"
	"bonsai/table"
	"bonsai/tree"
	"bonsai/well"
)

func read(t *testing.T, text string) api.Grammar {
	t.Helper()
	g, _, e := parse.Grammar(text)
	if e != api.OK {
		t.Fatal(text, e)
	}
	return g
}

func TestExamples(t *testing.T) {
	g := read(t, "a <- \"x\" a / \"\"")
	w, e := fuel.Weight(g)
	if w != 6 || e != api.OK || fuel.Bound(w, 2, 0) != 108 {
		t.Error(w, e)
	}
	if c, e := fuel.Closer(g, 2, 0); c != 30 || e != api.OK {
		t.Error(c, e)
	}
	if f, e := fuel.Enough(g, "xx"); f != 108 || e != api.OK {
		t.Error(f, e)
	}
	for text, want := range map[string]int{"a <- \"ab\"{2,5}": 11, "a <- .": 1, "a <- a": 1, "a <- \"\"": 1, "a <- .{3,}": 5, "a <- .{99}": 200, "a <- (!&<n: \"abc\">)?": 1 + 1 + 1 + 1 + 1 + 3 + 1, "a <- b b <- \"x\"": 3, "a <- [a-z]{0}": 2} {
		if w, e := fuel.Weight(read(t, text)); w != want || e != api.OK {
			t.Error(text, w, e)
		}
	}
	for text, want := range map[string]int{"a <- .": 1, "a <- a": 2, "a <- !.": 3, "a <- . . .": 4 + 3, "a <- . / . / . ": 4 + 3, "a <- .*": 2 + 7, "a <- .{2,}": 2 + 7, "a <- .{2,5}": 2 + 7 + 5, "a <- .{0}": 2 + 7, "a <- <n: &a>": 3 + 1 + 1 + 1} {
		if c, e := fuel.Closer(read(t, text), 5, 10); c != want*6+10 || e != api.OK {
			t.Error(text, c, e)
		}
	}
	caps := read(t, "a <- <n: .>*")
	if f, e := fuel.Enough(caps, "xyz"); f != 3*4*7+3 || e != api.OK {
		t.Error(f, e)
	}
	if f, e := fuel.Enough(read(t, "a <- <n: .>* [] b <- b"), "xyz"); f != 6*4*7 || e != api.OK {
		t.Error(f, e)
	}
}

func TestBound(t *testing.T) {
	s := sample.New(171)
	most := big.NewInt(api.MaxFuel)
	some := func() int {
		n := int(s.Next() >> (1 + s.Below(63)))
		if s.OneIn(9) {
			return -1 - n>>1
		}
		return n
	}
	for range 20000 {
		w, n, c := some(), some(), some()
		want := big.NewInt(0)
		if w >= 0 && n >= 0 && c >= 0 {
			one, four := new(big.Int).Add(big.NewInt(int64(n)), big.NewInt(1)), new(big.Int).Add(big.NewInt(int64(n)), big.NewInt(4))
			want.Mul(big.NewInt(int64(w)), one).Mul(want, four).Add(want, big.NewInt(int64(c)))
			if want.Cmp(most) > 0 {
				want = most
			}
		}
		got := fuel.Bound(w, n, c)
		if int64(got) != want.Int64() {
			t.Fatal(w, n, c, got, want)
		}
		if w >= 0 && n >= 0 && c >= 0 && w < 1<<62 && n < 1<<62 && c < 1<<62 && (fuel.Bound(w+1, n, c) < got || fuel.Bound(w, n+1, c) < got || fuel.Bound(w, n, c+1) < got) {
			t.Fatal("more", w, n, c)
		}
	}
	all := 1<<63 - 1
	if fuel.Bound(all, all, all) != api.MaxFuel || fuel.Bound(0, all, 0) != 0 || fuel.Bound(0, all, 5) != 5 || fuel.Bound(0, 0, all) != api.MaxFuel || fuel.Bound(1, 0, 0) != 4 || fuel.Bound(-1<<63, 0, 9) != 0 || fuel.Bound(1, -1, 9) != 0 || fuel.Bound(1, 1, -1) != 0 || fuel.Bound(api.MaxFuel/4, 0, 0) != api.MaxFuel || fuel.Bound(api.MaxFuel/4-1, 0, 3) != api.MaxFuel-1 {
		t.Error("edges")
	}
	g := read(t, "a <- .*")
	for _, row := range [][3]int{{-1, 0, 0}, {0, -1, 0}, {-1 << 63, 0, 0}, {all, 0, api.MaxFuel}, {0, all, api.MaxFuel}, {all, all, api.MaxFuel}, {0, 0, 4}, {1 << 39, 0, api.MaxFuel}, {1 << 20, 0, api.MaxFuel}, {1<<19 - 1, 5, (2+1<<19+1)*(1<<19) + 5}} {
		if c, e := fuel.Closer(g, row[0], row[1]); c != row[2] || e != api.OK {
			t.Error(row, c, e)
		}
	}
}

func TestEnough(t *testing.T) {
	s := sample.New(172)
	tried := 0
	for range 4000 {
		g := s.Grammar(1+s.Below(4), 1+s.Below(4))
		e := gram.May(g)
		input := s.Input(8)
		w, e1 := fuel.Weight(g)
		c, e2 := fuel.Closer(g, 3, 4)
		f, e3 := fuel.Enough(g, input)
		if e != api.OK {
			if e1 != e || e2 != e || e3 != e || w != 0 || c != 0 || f != 0 {
				t.Fatal(e, e1, e2, e3)
			}
			continue
		}
		tab, _ := table.New(g, input)
		n, known := tab.Count(0, 0)
		if known != e3 || e3 == api.OK && f != fuel.Bound(w, len(input), n) || e3 != api.OK && f != 0 {
			t.Fatal(known, e3, f)
		}
		closer, _ := fuel.Closer(g, len(input), n)
		if closer > fuel.Bound(w, len(input), n) {
			t.Fatal("closer", closer)
		}
		if next, _ := fuel.Closer(g, len(input)+1, n); next < closer {
			t.Fatal("one byte more")
		}
		more := gram.Copy(g)
		more.Rules = append(more.Rules, api.Def{Name: "more", Body: tree.Empty()})
		if next, _ := fuel.Closer(more, len(input), n); next < closer {
			t.Fatal("one rule more")
		}
		want, derived := tab.Outcome(0, 0)
		told := false
		for _, with := range []int{0, s.Below(40), s.Below(200), closer, fuel.Bound(w, len(input), n), api.MaxFuel} {
			o, used, e := pack.Match(g, input, with)
			if e == api.OK && (derived != api.OK || !span.Same(o, want) || used > with) {
				t.Fatal("right", o, e, want)
			}
			told = told || with == closer
			if told && well.Check(g) == api.OK && (e != api.OK || used > closer) {
				t.Fatal("enough", with, used, closer, e)
			}
		}
		if well.Check(g) == api.OK {
			tried++
		}
	}
	if tried < 1000 {
		t.Fatal(tried)
	}
	if f, e := fuel.Enough(read(t, "a <- a"), "x"); f != 0 || e != api.ErrNone {
		t.Error(f, e)
	}
	if f, e := fuel.Enough(read(t, "a <- a"), strings.Repeat("x", 4097)); f != 0 || e != api.ErrTooLarge {
		t.Error(f, e)
	}
	if f, e := fuel.Enough(api.Grammar{}, strings.Repeat("x", 4097)); f != 0 || e != api.ErrForm {
		t.Error(f, e)
	}
	big := read(t, "a <- <n: b>{0,99}\nb <- <n: c>{0,99}\nc <- <n: d>{0,99}\nd <- <n: e>{0,99}\ne <- <n: f>{0,99}\nf <- <n: g>{0,99}\ng <- <n: \"\">{0,99}")
	if f, e := fuel.Enough(big, ""); f != api.MaxFuel || e != api.OK {
		t.Error(f, e)
	}
	x := tree.Text("x")
	for _, bad := range []api.Grammar{{}, {Rules: []api.Def{{Name: "a", Body: x}, {Name: "a", Body: x}}}, {Rules: []api.Def{{Name: "a", Body: tree.Rule("b")}}}, {Rules: []api.Def{{Name: "a", Body: sample.Deep(33, api.Node{Kind: api.Not})}}}, {Rules: []api.Def{{Name: "1", Body: x}}}} {
		w, e1 := fuel.Weight(bad)
		c, e2 := fuel.Closer(bad, 1, 1)
		d, e3 := fuel.Closer(bad, -1, 0)
		f, e4 := fuel.Enough(bad, "x")
		e := gram.May(bad)
		if w+c+d+f != 0 || e == api.OK || e1 != e || e2 != e || e3 != e || e4 != e {
			t.Error(w, c, d, f, e1, e2, e3, e4)
		}
	}
}
