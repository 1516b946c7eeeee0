package cost_test

import (
	"math"
	"testing"

	"bonsai/api"
	"bonsai/cost"
	"bonsai/expr"
	"bonsai/gram"
	"bonsai/parse"
	"bonsai/sample"
	"bonsai/tree"
)

func read(t *testing.T, text string) api.Grammar {
	t.Helper()
	g, _, e := parse.Grammar(text)
	if e != api.OK {
		t.Fatal(text, e)
	}
	return g
}

func TestExamples(t *testing.T) {
	for text, want := range map[string]complex128{"\"a\"": 1, "x / y": 3 + 10i, "\"a\"*": 2, "\"\"": 1, ".": 1, "x": 1 + 3i, "x x": 3 + 6i, "\"p\" / \"q\" / \"r\"": 4 + 6i, "!&<n: x>": 4 + 3i, "(. / .) (. / .)": 7 + 8i} {
		x, _, _ := parse.Expr(text)
		if got := cost.Tree(x); got != want {
			t.Error(text, got)
		}
	}
	x, _, _ := parse.Expr("x / y")
	if cost.Sum(cost.Tree(x)) != 13 {
		t.Error("total")
	}
	g := read(t, "a <- b / \"x\" b <- \"y\"")
	if z, e := cost.Of(g); z != 4+7i || e != api.OK || cost.Total(g) != 11 {
		t.Error(z, e)
	}
}

func TestSum(t *testing.T) {
	nan, inf := math.NaN(), math.Inf(1)
	for _, row := range []struct {
		re, im float64
		want   int
	}{
		{1.5, -2.5, -2}, {0, 0, 0}, {3, 10, 13}, {0.9, 0.9, 0}, {-0.1, 0, -1}, {-0.1, -0.1, -2}, {nan, 5, 5}, {5, nan, 5}, {nan, nan, 0}, {inf, 0, 1 << 40}, {-inf, 0, -1 << 40}, {inf, -inf, 0}, {inf, inf, 1 << 41}, {1 << 40, 1, 1<<40 + 1}, {1<<40 + 1, 0, 1 << 40}, {1<<40 - 0.5, 0, 1<<40 - 1}, {1<<40 + 0.5, 0, 1 << 40},
		{-1 << 40, 0, -1 << 40}, {-1<<40 - 0.5, 0, -1 << 40}, {-1<<40 + 0.5, 0, -1 << 40}, {-1<<40 + 1.5, 0, -1<<40 + 1}, {1e300, -1e300, 0}, {math.SmallestNonzeroFloat64, -math.SmallestNonzeroFloat64, -1}, {-0.0, 0, 0},
	} {
		if got := cost.Sum(complex(row.re, row.im)); got != row.want {
			t.Error(row, got)
		}
	}
}

func TestParts(t *testing.T) {
	s := sample.New(261)
	for range 2000 {
		a := s.Tree(1+s.Below(5), sample.Names(2))
		want := complex128(1)
		root := tree.Root(a)
		kids := tree.Kids(a)
		switch root.Kind {
		case api.Choice:
			want += complex(0, float64(2*len(kids)))
		case api.Rule:
			want += 3i
		}
		for _, kid := range kids {
			want += cost.Tree(kid)
		}
		got := cost.Tree(a)
		if got != want || real(got) != float64(tree.Size(a)) || imag(got) < 0 || imag(got) > 5*real(got) {
			t.Fatal(a, got, want)
		}
		normal, _ := expr.Make(a)
		if cost.Sum(cost.Tree(normal)) > cost.Sum(got) {
			t.Fatal("made normal", a)
		}
		if b := s.Broken(a); !tree.Right(b) && cost.Tree(b) != 0 {
			t.Fatal("of one that is not right")
		}
	}
	if got := cost.Tree(sample.Deep(65536, api.Node{Kind: api.Not})); got != 65536 {
		t.Error(got)
	}
}

func TestGrammars(t *testing.T) {
	s := sample.New(262)
	told := [3]int{}
	for range 2000 {
		g, h := s.Grammar(1+s.Below(4), 1+s.Below(3)), s.Grammar(1+s.Below(4), 1+s.Below(3))
		z, e := cost.Of(g)
		if e != gram.May(g) || e != api.OK && (z != 0 || cost.Total(g) != 0) {
			t.Fatal(z, e)
		}
		if e == api.OK {
			want := complex128(0)
			for _, d := range g.Rules {
				want += cost.Tree(d.Body)
			}
			if z != want || cost.Total(g) != int(real(z))+int(imag(z)) || cost.Total(g) <= 0 || real(z) != float64(gram.Nodes(g)) {
				t.Fatal(z, want)
			}
		}
		want := 0
		if cost.Total(g) < cost.Total(h) {
			want = -1
		} else if cost.Total(g) > cost.Total(h) {
			want = 1
		}
		told[want+1]++
		if cost.Compare(g, h) != want || cost.Compare(h, g) != -want || cost.Compare(g, g) != 0 {
			t.Fatal("Compare")
		}
	}
	if told[0] < 100 || told[2] < 100 {
		t.Error(told)
	}
	for _, bad := range []api.Grammar{{}, read(t, "a <- \"x\" b <- a"), {Rules: make([]api.Def, 65)}} {
		if len(bad.Rules) == 2 {
			bad.Rules[1].Name = "a"
		}
		if z, e := cost.Of(bad); z != 0 || e != gram.May(bad) || e == api.OK || cost.Total(bad) != 0 {
			t.Error(z, e)
		}
	}
}
