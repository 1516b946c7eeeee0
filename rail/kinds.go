package rail

import (
	"bonsai/api"
	"bonsai/name"
	"bonsai/quote"
)

// kinds is what a node's kids are drawn to, by its kind.
func kinds() [api.Cap + 1]func(n api.Node, kids []Drawing) Drawing {
	return [...]func(n api.Node, kids []Drawing) Drawing{
		api.Empty: empty, api.Set: leaf, api.Text: leaf, api.Rule: leaf,
		api.Seq: seq, api.Choice: choice, api.Rep: rep,
		api.And: framed, api.Not: framed, api.Cap: framed,
	}
}

func empty(api.Node, []Drawing) Drawing {
	d := Drawing{Width: 2}
	d.stroke(0, 2)
	return d
}

func leaf(n api.Node, _ []Drawing) Drawing {
	s := sign(n)
	w := len(s) + 3
	d := Drawing{Width: w + 1, Up: 1, Down: 1}
	d.stroke(0, 1)
	d.stroke(1-1i, point(w, -1), point(w, 1), 1+1i, 1-1i)
	d.stroke(point(w, 0), point(w+1, 0))
	d.label(2, s)
	return d
}

func seq(_ api.Node, kids []Drawing) Drawing {
	var d Drawing
	for i, kid := range kids {
		if i > 0 {
			d.stroke(point(d.Width, 0), point(d.Width+2, 0))
			d.Width += 2
		}
		d.put(kid, point(d.Width, 0))
		d.Width += kid.Width
		d.Up, d.Down = max(d.Up, kid.Up), max(d.Down, kid.Down)
	}
	return d
}

func choice(_ api.Node, kids []Drawing) Drawing {
	w := 0
	for _, kid := range kids {
		w = max(w, kid.Width)
	}
	d := Drawing{Width: w + 4, Up: kids[0].Up}
	y := 0
	for i, kid := range kids {
		if i == 0 {
			d.stroke(0, 2)
			d.put(kid, 2)
			d.stroke(point(2+kid.Width, 0), point(w+4, 0))
		} else {
			y = d.Down + 1 + kid.Up
			d.stroke(1, point(1, y), point(2, y))
			d.put(kid, point(2, y))
			d.stroke(point(2+kid.Width, y), point(w+3, y), point(w+3, 0))
		}
		d.Down = y + kid.Down
	}
	return d
}

// within is a kid with its track, and the label of what stands around it.
func within(kid Drawing, w int, at complex128, label string) Drawing {
	d := Drawing{Width: w + 4, Up: kid.Up + 2, Down: kid.Down + 1}
	d.label(at, label)
	d.stroke(0, 2)
	d.put(kid, 2)
	d.stroke(point(2+kid.Width, 0), point(w+4, 0))
	return d
}

func rep(n api.Node, kids []Drawing) Drawing {
	s, kid := sign(n), kids[0]
	w := max(kid.Width, len(s))
	d := within(kid, w, point(2, -kid.Up-2), s)
	if n.Max < 0 || n.Max > 1 {
		y := -kid.Up - 1
		d.stroke(point(w+3, 0), point(w+3, y), point(1, y), 1)
	}
	if n.Min > 0 {
		d.Down = kid.Down
		return d
	}
	d.stroke(1, point(1, d.Down), point(w+3, d.Down), point(w+3, 0))
	return d
}

func framed(n api.Node, kids []Drawing) Drawing {
	s, kid := sign(n), kids[0]
	w := max(kid.Width, len(s))
	d := within(kid, w, point(2, -kid.Up-1), s)
	d.stroke(point(1, -d.Up), point(w+3, -d.Up), point(w+3, d.Down), point(1, d.Down), point(1, -d.Up))
	return d
}

// sign is a node's label.
func sign(n api.Node) string {
	switch n.Kind {
	case api.Set:
		return quote.Class(n.Set)
	case api.Text:
		return quote.Literal(n.Text)
	case api.Rep:
		return count(n.Min, n.Max)
	case api.And:
		return "&"
	case api.Not:
		return "!"
	case api.Cap:
		return n.Text + ":"
	}
	return n.Text
}

func count(least, most int) string {
	switch {
	case least == 0 && most == 1:
		return "?"
	case least == 0 && most < 0:
		return "*"
	case least == 1 && most < 0:
		return "+"
	case most < 0:
		return "{" + name.Show(least) + ",}"
	case least == most:
		return "{" + name.Show(least) + "}"
	}
	return "{" + name.Show(least) + "," + name.Show(most) + "}"
}
