package table

import (
	"strings"

	"bonsai/api"
	"bonsai/set"
	"bonsai/span"
)

// What is known of an outcome.
const (
	unknown uint8 = iota
	failed
	matched
)

// cell is what is known of a node at a place. Of a Rep without end it tells also, where it failed, how often the kid matched, and where that ended: what goes on there needs it.
type cell struct {
	state uint8
	times uint8
	end   int16
	count int
}

// sweep has a row of cells, one for each node, for each place.
type sweep struct {
	nodes []api.Node
	input string
	rows  [][]cell
}

// step works out a node at a place, by what is known of its kids.
type step func(s *sweep, n api.Node, id, at int) cell

func steps() [api.Cap + 1]step {
	return [...]step{
		api.Empty: (*sweep).empty, api.Set: (*sweep).set, api.Text: (*sweep).text, api.Rule: (*sweep).same,
		api.Seq: (*sweep).seq, api.Choice: (*sweep).choice, api.Rep: (*sweep).rep,
		api.And: (*sweep).and, api.Not: (*sweep).not, api.Cap: (*sweep).capture,
	}
}

// fill makes the rows, from the input's end on.
func (s *sweep) fill() {
	n := len(s.nodes)
	cells := make([]cell, n*(len(s.input)+1))
	for at := range len(s.input) + 1 {
		s.rows = append(s.rows, cells[at*n:(at+1)*n:(at+1)*n])
	}
	by := steps()
	left := make([]int, n)
	for at := len(s.input); at >= 0; at-- {
		left = left[:n]
		for i := range left {
			left[i] = i
		}
		for more := true; more; {
			was := len(left)
			left = s.round(by, left, at)
			more = len(left) < was
		}
	}
}

// round goes over the nodes that are left, and keeps those of which nothing is known yet.
func (s *sweep) round(by [api.Cap + 1]step, left []int, at int) []int {
	still := left[:0]
	for _, id := range left {
		n := s.nodes[id]
		c := by[n.Kind](s, n, id, at)
		s.rows[at][id] = c
		if c.state == unknown {
			still = append(still, id)
		}
	}
	return still
}

// with is the sweep with an expression's nodes behind the others, from the input's end to a place.
func (s *sweep) with(x api.Tree, rules map[string]int, to int) *sweep {
	n := len(s.nodes)
	out := &sweep{nodes: flat(s.nodes[:n:n], x, rules), input: s.input, rows: make([][]cell, len(s.rows))}
	by := steps()
	own := make([]cell, len(x.Nodes))
	for at := len(s.input); at >= to; at-- {
		out.rows[at] = append(s.rows[at][:n:n], own...)
		for i := range x.Nodes {
			out.rows[at][n+i] = by[out.nodes[n+i].Kind](out, out.nodes[n+i], n+i, at)
		}
	}
	return out
}

func match(end, count int) cell { return cell{state: matched, end: int16(end), count: count} }

func add(a, b int) int { return min(a+b, MaxCount) }

func (s *sweep) empty(_ api.Node, _, at int) cell { return match(at, 0) }

func (s *sweep) set(n api.Node, _, at int) cell {
	if at < len(s.input) && set.Has(n.Set, s.input[at]) {
		return match(at+1, 0)
	}
	return cell{state: failed}
}

func (s *sweep) text(n api.Node, _, at int) cell {
	if strings.HasPrefix(s.input[at:], n.Text) {
		return match(at+len(n.Text), 0)
	}
	return cell{state: failed}
}

func (s *sweep) kid(n api.Node, at int) cell { return s.rows[at][n.Kids[0]] }

func (s *sweep) same(n api.Node, _, at int) cell {
	c := s.kid(n, at)
	switch c.state {
	case matched:
		return match(int(c.end), c.count)
	case failed:
		return cell{state: failed}
	}
	return cell{}
}

func (s *sweep) capture(n api.Node, id, at int) cell {
	c := s.same(n, id, at)
	if c.state == matched {
		c.count = add(c.count, 1)
	}
	return c
}

func (s *sweep) and(n api.Node, id, at int) cell {
	c := s.same(n, id, at)
	if c.state == matched {
		return match(at, 0)
	}
	return c
}

func (s *sweep) not(n api.Node, _, at int) cell {
	switch s.kid(n, at).state {
	case matched:
		return cell{state: failed}
	case failed:
		return match(at, 0)
	}
	return cell{}
}

func (s *sweep) seq(n api.Node, _, at int) cell {
	count := 0
	for _, kid := range n.Kids {
		c := s.rows[at][kid]
		if c.state != matched {
			return cell{state: c.state}
		}
		at, count = int(c.end), add(count, c.count)
	}
	return match(at, count)
}

func (s *sweep) choice(n api.Node, _, at int) cell {
	for _, kid := range n.Kids {
		c := s.rows[at][kid]
		if c.state != failed {
			return cell{state: c.state, end: c.end, count: c.count}
		}
	}
	return cell{state: failed}
}

func (s *sweep) rep(n api.Node, id, at int) cell {
	if n.Max < 0 {
		return s.endless(n, id, at)
	}
	count, times := 0, 0
	for ; times < n.Max; times++ {
		c := s.kid(n, at)
		if c.state == unknown {
			return cell{}
		}
		if c.state == failed {
			break
		}
		at, count = int(c.end), add(count, c.count)
	}
	if times < n.Min {
		return cell{state: failed}
	}
	return match(at, count)
}

// endless goes on where the kid ended by the Rep's own cell there.
func (s *sweep) endless(n api.Node, id, at int) cell {
	c := s.kid(n, at)
	out := cell{state: matched, end: int16(at)}
	switch {
	case c.state == unknown || c.state == matched && int(c.end) == at:
		return cell{}
	case c.state == matched:
		rest := s.rows[c.end][id]
		if rest.state == unknown {
			return cell{}
		}
		out = cell{state: matched, end: rest.end, count: add(c.count, rest.count), times: min(rest.times+1, api.MaxRep)}
	}
	if int(out.times) < n.Min {
		out.state = failed
	}
	return out
}

// part is a node at a place, whose captures are still to be told.
type part struct{ id, at int }

// outcome is what is known of a node at a place, with its captures.
func (s *sweep) outcome(id, at int) (api.Outcome, api.Errno) {
	c := s.rows[at][id]
	switch {
	case c.state == unknown:
		return span.Fail(), api.ErrNone
	case c.state == failed:
		return span.Fail(), api.OK
	case c.count > api.MaxCaps:
		return span.Fail(), api.ErrTooLarge
	}
	o := span.At(int(c.end))
	// Rules may stand within rules at each place of the input, so there is a list, and no call within a call.
	left := []part{{id, at}}
	if c.count == 0 {
		left = nil
	}
	for len(left) > 0 {
		p := left[len(left)-1]
		left = left[:len(left)-1]
		n := s.nodes[p.id]
		if n.Kind == api.Cap {
			o.Captures = append(o.Captures, api.Capture{Name: n.Text, From: p.at, To: int(s.rows[p.at][p.id].end)})
		}
		kids := s.parts(n, p.at)
		for i := len(kids) - 1; i >= 0; i-- {
			if s.rows[kids[i].at][kids[i].id].count > 0 {
				left = append(left, kids[i])
			}
		}
	}
	return o, api.OK
}

// parts is what a match of a node with captures is made of.
func (s *sweep) parts(n api.Node, at int) []part {
	var out []part
	switch n.Kind {
	case api.Choice:
		for _, kid := range n.Kids {
			if s.rows[at][kid].state == matched {
				return []part{{kid, at}}
			}
		}
	case api.Rep:
		for c := s.kid(n, at); c.state == matched && len(out) != n.Max; c = s.kid(n, at) {
			out = append(out, part{n.Kids[0], at})
			at = int(c.end)
		}
	default:
		for _, kid := range n.Kids {
			out = append(out, part{kid, at})
			at = int(s.rows[at][kid].end)
		}
	}
	return out
}
