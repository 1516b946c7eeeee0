package sample

import (
	"strings"

	"bonsai/api"
)

// Oracle works out outcomes straight by the document's words, by calls within calls: for small grammars and inputs.
type Oracle struct {
	g     api.Grammar
	input string
	seen  map[spot]*found
}

// spot is a node of a rule's body at a place.
type spot struct{ rule, node, at int }

// found is what was derived; while it is being worked out nothing is known.
type found struct {
	known bool
	o     api.Outcome
}

// NewOracle is one for a grammar that may be, and an input.
func NewOracle(g api.Grammar, input string) *Oracle {
	return &Oracle{g: g, input: input, seen: map[spot]*found{}}
}

// Rule is the outcome of a rule at a place, if one is derived.
func (o *Oracle) Rule(rule, at int) (api.Outcome, bool) {
	f := o.find(o.g.Rules[rule].Body, spot{rule, o.g.Rules[rule].Body.Root, at})
	return f.o, f.known
}

// Expr is the outcome of an expression at a place, if one is derived.
func (o *Oracle) Expr(x api.Tree, at int) (api.Outcome, bool) {
	own := &Oracle{g: o.g, input: o.input, seen: map[spot]*found{}}
	for s, f := range o.seen {
		if s.rule >= 0 {
			own.seen[s] = f
		}
	}
	f := own.find(x, spot{-1, x.Root, at})
	return f.o, f.known
}

func (o *Oracle) find(t api.Tree, s spot) *found {
	if f := o.seen[s]; f != nil {
		return f
	}
	f := &found{}
	o.seen[s] = f
	out, known := o.derive(t, s)
	f.o, f.known = out, known
	return f
}

func (o *Oracle) named(name string) int {
	for i, d := range o.g.Rules {
		if d.Name == name {
			return i
		}
	}
	return -1
}

func (o *Oracle) derive(t api.Tree, s spot) (api.Outcome, bool) {
	n := t.Nodes[s.node]
	rest := o.input[s.at:]
	here := api.Outcome{OK: true, To: s.at}
	kid := func(i, at int) (api.Outcome, bool) {
		f := o.find(t, spot{s.rule, n.Kids[i], at})
		return f.o, f.known
	}
	switch n.Kind {
	case api.Empty:
		return here, true
	case api.Set:
		if rest != "" && n.Set[rest[0]/64]>>(rest[0]%64)&1 == 1 {
			return api.Outcome{OK: true, To: s.at + 1}, true
		}
		return api.Outcome{}, true
	case api.Text:
		if strings.HasPrefix(rest, n.Text) {
			return api.Outcome{OK: true, To: s.at + len(n.Text)}, true
		}
		return api.Outcome{}, true
	case api.Rule:
		return o.Rule(o.named(n.Text), s.at)
	case api.Seq:
		return row(here, len(n.Kids), len(n.Kids), kid)
	case api.Choice:
		for i := range n.Kids {
			if out, known := kid(i, s.at); !known || out.OK {
				return out, known
			}
		}
		return api.Outcome{}, true
	case api.Rep:
		return row(here, n.Min, n.Max, func(_, at int) (api.Outcome, bool) { return kid(0, at) })
	case api.Cap:
		out, known := kid(0, s.at)
		if out.OK {
			out.Captures = append([]api.Capture{{Name: n.Text, From: s.at, To: out.To}}, out.Captures...)
		}
		return out, known
	}
	out, known := kid(0, s.at)
	if out.OK == (n.Kind == api.And) {
		return here, known
	}
	return api.Outcome{}, known
}

// row is what kids come to, one behind the other, least to most of them (most -1: without end).
func row(out api.Outcome, least, most int, kid func(i, at int) (api.Outcome, bool)) (api.Outcome, bool) {
	for i := 0; i != most; i++ {
		next, known := kid(i, out.To)
		if !known || most < 0 && next.OK && next.To == out.To {
			return api.Outcome{}, false
		}
		if !next.OK {
			if i < least {
				return api.Outcome{}, true
			}
			break
		}
		out = api.Outcome{OK: true, To: next.To, Captures: append(append([]api.Capture(nil), out.Captures...), next.Captures...)}
	}
	return out, true
}
