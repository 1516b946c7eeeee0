package rail_test

import (
	"math"
	"reflect"
	"strconv"
	"strings"
	"testing"

	"bonsai/api"
	"bonsai/quote"
	"bonsai/rail"
	"bonsai/sample"
	"bonsai/tree"
)

// xy is a point by whole numbers.
type xy struct{ x, y int }

// plan is a drawing worked out by whole numbers, straight by the table.
type plan struct {
	w, u, d int
	strokes [][]xy
	labels  []rail.Label
}

func (p *plan) add(k plan, by xy) {
	for _, s := range k.strokes {
		var out []xy
		for _, q := range s {
			out = append(out, xy{q.x + by.x, q.y + by.y})
		}
		p.strokes = append(p.strokes, out)
	}
	for _, l := range k.labels {
		p.labels = append(p.labels, rail.Label{At: l.At + complex(float64(by.x), float64(by.y)), Text: l.Text})
	}
}

func (p *plan) line(q ...xy) { p.strokes = append(p.strokes, q) }

func (p *plan) tell(x, y int, s string) {
	p.labels = append(p.labels, rail.Label{At: complex(float64(x), float64(y)), Text: s})
}

func planned(a api.Tree) plan {
	n := tree.Root(a)
	var kids []plan
	w := 0
	for _, kid := range tree.Kids(a) {
		k := planned(kid)
		kids = append(kids, k)
		w = max(w, k.w)
	}
	var p plan
	switch n.Kind {
	case api.Empty:
		p.w = 2
		p.line(xy{0, 0}, xy{2, 0})
	case api.Set:
		p.box(quote.Class(n.Set))
	case api.Text:
		p.box(quote.Literal(n.Text))
	case api.Rule:
		p.box(n.Text)
	case api.Seq:
		for i, k := range kids {
			if i > 0 {
				p.line(xy{p.w, 0}, xy{p.w + 2, 0})
				p.w += 2
			}
			p.add(k, xy{p.w, 0})
			p.w, p.u, p.d = p.w+k.w, max(p.u, k.u), max(p.d, k.d)
		}
	case api.Choice:
		y := 0
		p.w, p.u = w+4, kids[0].u
		for i, k := range kids {
			if i == 0 {
				p.line(xy{0, 0}, xy{2, 0})
				p.add(k, xy{2, 0})
				p.line(xy{2 + k.w, 0}, xy{w + 4, 0})
				continue
			}
			y += kids[i-1].d + 1 + k.u
			p.line(xy{1, 0}, xy{1, y}, xy{2, y})
			p.add(k, xy{2, y})
			p.line(xy{2 + k.w, y}, xy{w + 3, y}, xy{w + 3, 0})
		}
		p.d = y + kids[len(kids)-1].d
	default:
		p.around(n, kids[0])
	}
	return p
}

func (p *plan) box(s string) {
	n := len(s)
	p.w, p.u, p.d = n+4, 1, 1
	p.line(xy{0, 0}, xy{1, 0})
	p.line(xy{1, -1}, xy{n + 3, -1}, xy{n + 3, 1}, xy{1, 1}, xy{1, -1})
	p.line(xy{n + 3, 0}, xy{n + 4, 0})
	p.tell(2, 0, s)
}

func (p *plan) around(n api.Node, k plan) {
	s := map[uint8]string{api.And: "&", api.Not: "!", api.Cap: n.Text + ":"}[n.Kind]
	if n.Kind == api.Rep {
		s = "{" + strconv.Itoa(n.Min) + "," + strconv.Itoa(n.Max) + "}"
		s = strings.Replace(s, ",-1", ",", 1)
		if n.Min == n.Max {
			s = "{" + strconv.Itoa(n.Min) + "}"
		}
		switch s {
		case "{0,1}":
			s = "?"
		case "{0,}":
			s = "*"
		case "{1,}":
			s = "+"
		}
	}
	w := max(k.w, len(s))
	p.w, p.u, p.d = w+4, k.u+2, k.d+1
	if n.Kind == api.Rep {
		p.tell(2, -k.u-2, s)
	} else {
		p.tell(2, -k.u-1, s)
	}
	p.line(xy{0, 0}, xy{2, 0})
	p.add(k, xy{2, 0})
	p.line(xy{2 + k.w, 0}, xy{w + 4, 0})
	if n.Kind != api.Rep {
		p.line(xy{1, -k.u - 2}, xy{w + 3, -k.u - 2}, xy{w + 3, k.d + 1}, xy{1, k.d + 1}, xy{1, -k.u - 2})
		return
	}
	if n.Max == -1 || n.Max > 1 {
		p.line(xy{w + 3, 0}, xy{w + 3, -k.u - 1}, xy{1, -k.u - 1}, xy{1, 0})
	}
	if n.Min == 0 {
		p.line(xy{1, 0}, xy{1, k.d + 1}, xy{w + 3, k.d + 1}, xy{w + 3, 0})
	} else {
		p.d = k.d
	}
}

func (p plan) drawing() rail.Drawing {
	d := rail.Drawing{Width: p.w, Up: p.u, Down: p.d, Labels: p.labels}
	for _, s := range p.strokes {
		var points []complex128
		for _, q := range s {
			points = append(points, complex(float64(q.x), float64(q.y)))
		}
		d.Strokes = append(d.Strokes, points)
	}
	return d
}

func same(a, b rail.Drawing) bool {
	if a.Width != b.Width || a.Up != b.Up || a.Down != b.Down || len(a.Strokes) != len(b.Strokes) || len(a.Labels) != len(b.Labels) {
		return false
	}
	for i, s := range a.Strokes {
		if len(s) != len(b.Strokes[i]) {
			return false
		}
		for j, p := range s {
			if p != b.Strokes[i][j] {
				return false
			}
		}
	}
	for i, l := range a.Labels {
		if l != b.Labels[i] {
			return false
		}
	}
	return true
}

func of(n api.Node, kids ...api.Tree) api.Tree {
	out, ok := tree.Of(n, kids)
	if !ok {
		panic("a node that does not fit")
	}
	return out
}

func TestExamples(t *testing.T) {
	x, y := tree.Rule("x"), tree.Rule("y")
	for want, a := range map[string]api.Tree{
		"size 2 0 0\nstroke 0,0 2,0\n": tree.Empty(),
		"size 7 1 1\nstroke 0,0 1,0\nstroke 1,-1 6,-1 6,1 1,1 1,-1\nstroke 6,0 7,0\nlabel 2,0 \"a\"\n":                         tree.Text("a"),
		"size 5 1 1\nstroke 0,0 1,0\nstroke 1,-1 4,-1 4,1 1,1 1,-1\nstroke 4,0 5,0\nlabel 2,0 .\n":                             tree.Set(api.Bytes{^uint64(0), ^uint64(0), ^uint64(0), ^uint64(0)}),
		"size 6 0 0\nstroke 0,0 2,0\nstroke 2,0 4,0\nstroke 4,0 6,0\n":                                                         of(api.Node{Kind: api.Seq}, tree.Empty(), tree.Empty()),
		"size 6 0 1\nstroke 0,0 2,0\nstroke 2,0 4,0\nstroke 4,0 6,0\nstroke 1,0 1,1 2,1\nstroke 2,1 4,1\nstroke 4,1 5,1 5,0\n": of(api.Node{Kind: api.Choice}, tree.Empty(), tree.Empty()),
		"size 6 2 1\nstroke 0,0 2,0\nstroke 2,0 4,0\nstroke 4,0 6,0\nstroke 1,0 1,1 5,1 5,0\nlabel 2,-2 ?\n":                   of(api.Node{Kind: api.Rep, Max: 1}, tree.Empty()),
		"size 9 2 0\nstroke 0,0 2,0\nstroke 2,0 4,0\nstroke 4,0 9,0\nstroke 8,0 8,-1 1,-1 1,0\nlabel 2,-2 {2,3}\n":             of(api.Node{Kind: api.Rep, Min: 2, Max: 3}, tree.Empty()),
		"size 7 2 0\nstroke 0,0 2,0\nstroke 2,0 4,0\nstroke 4,0 7,0\nlabel 2,-2 {1}\n":                                         of(api.Node{Kind: api.Rep, Min: 1, Max: 1}, tree.Empty()),
		"size 6 2 1\nstroke 0,0 2,0\nstroke 2,0 4,0\nstroke 4,0 6,0\nstroke 1,-2 5,-2 5,1 1,1 1,-2\nlabel 2,-1 !\n":            of(api.Node{Kind: api.Not}, tree.Empty()),
		"size 8 2 1\nstroke 0,0 2,0\nstroke 2,0 4,0\nstroke 4,0 8,0\nstroke 1,-2 7,-2 7,1 1,1 1,-2\nlabel 2,-1 abc:\n":         of(api.Node{Kind: api.Cap, Text: "abc"}, tree.Empty()),
	} {
		d, ok := rail.Draw(a)
		if got := rail.Show(d); !ok || got != want {
			t.Errorf("%q, not %q", got, want)
		}
	}
	d, _ := rail.Draw(of(api.Node{Kind: api.Choice}, x, y))
	if d.Width != 9 || d.Up != 1 || d.Down != 4 || d.Labels[1].At != 4+3i {
		t.Error(d)
	}
	d, _ = rail.Draw(of(api.Node{Kind: api.Rep, Max: -1}, x))
	if d.Width != 9 || d.Up != 3 || d.Down != 2 {
		t.Error(d)
	}
}

var names = []string{"a", "bcdefgh"}

func TestAgainstTheTable(t *testing.T) {
	s := sample.New(311)
	for range 1500 {
		a := s.Tree(1+s.Below(5), names)
		got, ok := rail.Draw(a)
		if !ok || !same(got, planned(a).drawing()) {
			t.Fatal(a, rail.Show(got), rail.Show(planned(a).drawing()))
		}
		within(t, a, got)
	}
}

// within looks at what follows of each drawing.
func within(t *testing.T, a api.Tree, d rail.Drawing) {
	t.Helper()
	labels := 0
	for _, n := range a.Nodes {
		if n.Kind != api.Empty && n.Kind != api.Seq && n.Kind != api.Choice {
			labels++
		}
	}
	if len(d.Labels) != labels {
		t.Fatal("labels", len(d.Labels))
	}
	for i, s := range d.Strokes {
		for j, p := range s {
			if real(p) < 0 || real(p) > float64(d.Width) || imag(p) < float64(-d.Up) || imag(p) > float64(d.Down) || real(p) != math.Floor(real(p)) || imag(p) != math.Floor(imag(p)) {
				t.Fatal("within", s)
			}
			if j > 0 && (p == s[j-1] || real(p) != real(s[j-1]) && imag(p) != imag(s[j-1])) {
				t.Fatal("straight", s)
			}
		}
		if s[0] == s[len(s)-1] {
			continue
		}
		for _, end := range []complex128{s[0], s[len(s)-1]} {
			if end != 0 && end != complex(float64(d.Width), 0) && !lies(d, i, end) {
				t.Fatal("joined", end, rail.Show(d))
			}
		}
	}
}

// lies tells whether a point lies on a stroke that is not the one told.
func lies(d rail.Drawing, but int, p complex128) bool {
	for i, s := range d.Strokes {
		for j := 1; j < len(s) && i != but; j++ {
			a, b := s[j-1], s[j]
			if min(real(a), real(b)) <= real(p) && real(p) <= max(real(a), real(b)) && min(imag(a), imag(b)) <= imag(p) && imag(p) <= max(imag(a), imag(b)) {
				return true
			}
		}
	}
	return false
}

func TestSheet(t *testing.T) {
	s := sample.New(312)
	for range 300 {
		var g api.Grammar
		var want plan
		top, width, down := 0, 0, 0
		for i := range 1 + s.Below(4) {
			a := s.Tree(3, names)
			name := []string{"rule", "", "1 2", "x\ny"}[s.Below(4)] + strconv.Itoa(i)
			g.Rules = append(g.Rules, api.Def{Name: name, Body: a})
			p := planned(a)
			line := top + 1 + p.u
			want.tell(0, top, name)
			want.add(p, xy{0, line})
			width, down = max(width, p.w), line+p.d
			top = line + p.d + 2
		}
		want.w, want.d = width, down
		got, ok := rail.Sheet(g)
		if !ok || !same(got, want.drawing()) {
			t.Fatal(rail.Show(got), rail.Show(want.drawing()))
		}
	}
}

func TestWrong(t *testing.T) {
	s := sample.New(313)
	bad := []api.Tree{{}, tree.Text(""), sample.Deep(33, api.Node{Kind: api.Not}), sample.Deep(65536, api.Node{Kind: api.Not})}
	for range 300 {
		if b := s.Broken(s.Tree(4, nil)); !tree.May(b) {
			bad = append(bad, b)
		}
	}
	for _, b := range bad {
		d, ok := rail.Draw(b)
		e, is := rail.Sheet(api.Grammar{Rules: []api.Def{{Name: "a", Body: tree.Empty()}, {Name: "b", Body: b}}})
		if ok || is || !same(d, rail.Drawing{}) || !same(e, rail.Drawing{}) {
			t.Fatal(b)
		}
	}
	var many api.Grammar
	for range 65 {
		many.Rules = append(many.Rules, api.Def{Body: tree.Empty()})
	}
	for _, g := range []api.Grammar{{}, many} {
		if d, ok := rail.Sheet(g); ok || !same(d, rail.Drawing{}) {
			t.Error("Sheet")
		}
	}
	many.Rules = many.Rules[1:]
	if d, ok := rail.Sheet(many); !ok || d.Down != 64*3-2 || len(d.Labels) != 64 {
		t.Error("Sheet of 64", d.Down)
	}
	if d, ok := rail.Draw(sample.Deep(32, api.Node{Kind: api.And})); !ok || d.Width != 2+31*4 || d.Up != 62 || d.Down != 31 {
		t.Error(d.Width, d.Up, d.Down)
	}
}

func TestShow(t *testing.T) {
	nan, inf := math.NaN(), math.Inf(1)
	d := rail.Drawing{Width: -3, Up: 1 << 40, Down: 0, Strokes: [][]complex128{{}, {complex(1.5, -1.5)}, {complex(nan, inf), complex(-inf, nan)}, {complex(1<<53, -1<<53), complex(1<<53+2, -1<<53-2)}, {complex(0.99, -0.01), complex(1e300, -1e300)}}, Labels: []rail.Label{{At: 1i, Text: ""}, {At: complex(-0.5, 2), Text: "a b"}}}
	want := "size -3 1099511627776 0\nstroke\nstroke 1,-2\nstroke 0,9007199254740992 -9007199254740992,0\nstroke 9007199254740992,-9007199254740992 9007199254740992,-9007199254740992\nstroke 0,-1 9007199254740992,-9007199254740992\nlabel 0,1 \nlabel -1,2 a b\n"
	if got := rail.Show(d); got != want {
		t.Errorf("%q, not %q", got, want)
	}
	if got := rail.Show(rail.Drawing{}); got != "size 0 0 0\n" {
		t.Errorf("%q", got)
	}
}

func TestMoved(t *testing.T) {
	s := sample.New(314)
	for range 500 {
		d, _ := rail.Draw(s.Tree(4, names))
		before := rail.Shift(d, 0)
		a, b := complex(float64(s.Below(9)-4), float64(s.Below(9)-4)), complex(float64(s.Below(9)-4), float64(s.Below(9)-4))
		if !same(before, d) || !same(rail.Shift(rail.Shift(d, a), b), rail.Shift(d, a+b)) || !same(rail.Turn(rail.Turn(rail.Turn(rail.Turn(d)))), d) || !same(rail.Turn(rail.Shift(d, a)), rail.Shift(rail.Turn(d), a*1i)) {
			t.Fatal("moved")
		}
		moved, turned := rail.Shift(d, a), rail.Turn(d)
		for i, stroke := range d.Strokes {
			for j, p := range stroke {
				if moved.Strokes[i][j] != p+a || turned.Strokes[i][j] != complex(-imag(p), real(p)) {
					t.Fatal("each point")
				}
			}
		}
		for i, l := range d.Labels {
			if moved.Labels[i] != (rail.Label{At: l.At + a, Text: l.Text}) || turned.Labels[i] != (rail.Label{At: complex(-imag(l.At), real(l.At)), Text: l.Text}) {
				t.Fatal("each label")
			}
		}
		for _, out := range []rail.Drawing{moved, turned} {
			for i := range out.Strokes {
				out.Strokes[i][0] = 99
				_ = append(out.Strokes[i], 98)
			}
			out.Labels = append(out.Labels, rail.Label{})
		}
		if !same(d, before) {
			t.Fatal("memory is shared")
		}
		for i := range d.Strokes {
			d.Strokes[i] = append(d.Strokes[i], 97)
		}
		for i := range d.Strokes {
			if !reflect.DeepEqual(d.Strokes[i][:len(d.Strokes[i])-1], before.Strokes[i]) {
				t.Fatal("two strokes share memory")
			}
		}
	}
}

func TestSeqPieces(t *testing.T) {
	s := sample.New(315)
	for range 300 {
		a, b, c := s.Tree(2, names), s.Tree(3, names), s.Tree(2, names)
		whole, _ := rail.Draw(of(api.Node{Kind: api.Seq}, a, b, c))
		first, _ := rail.Draw(a)
		piece, _ := rail.Draw(b)
		piece = rail.Shift(piece, complex(float64(first.Width+2), 0))
		from := len(first.Strokes) + 1
		cut := rail.Drawing{Width: piece.Width, Up: piece.Up, Down: piece.Down, Strokes: whole.Strokes[from : from+len(piece.Strokes)], Labels: whole.Labels[len(first.Labels) : len(first.Labels)+len(piece.Labels)]}
		if !same(cut, piece) {
			t.Fatal("a piece")
		}
	}
}
