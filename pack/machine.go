package pack

import (
	"strings"

	"bonsai/api"
	"bonsai/span"
)

// What is known of a node at a place.
const (
	unknown uint8 = iota
	working
	failed
	matched
)

// result is what was worked out of a node at a place; captures are counted up to one more than there may be.
type result struct {
	state uint8
	to    int16
	count int32
}

// task is a node that is being worked out at a place: how many outcomes it was handed, and where it is to go on.
type task struct {
	id     int32
	at, to int16
	times  int32
	count  int32
}

type machine struct {
	units []unit
	roots map[string]int32
	input string
	rows  [][]result // by the place, then by the node
	fuel  int
	used  int
	open  []task
}

func (m *machine) root(name string) int32 { return m.roots[name] }

func (m *machine) known(id int32, at int) result {
	if m.rows[at] == nil {
		return result{}
	}
	return m.rows[at][id]
}

func (m *machine) note(id int32, at int, r result) {
	if m.rows[at] == nil {
		m.rows[at] = make([]result, len(m.units))
	}
	m.rows[at][id] = r
}

// burn uses one fuel, if there is some.
func (m *machine) burn() bool {
	if m.used == m.fuel {
		return false
	}
	m.used++
	return true
}

func (m *machine) begin(id int32, at int) bool {
	m.note(id, at, result{state: working})
	m.open = append(m.open, task{id: id, at: int16(at), to: int16(at)})
	return m.burn()
}

// work works a node out, with all that it asks for.
func (m *machine) work(root int32, at int) api.Errno {
	by := handlers()
	if !m.begin(root, at) {
		return api.ErrFuel
	}
ask:
	top := &m.open[len(m.open)-1]
	u := &m.units[top.id]
	r := m.alone(u, int(top.at))
	for r.state == unknown {
		kid := m.asks(u, top)
		r = m.known(kid, int(top.to))
		switch r.state {
		case working:
			return api.ErrLeft
		case unknown:
			if !m.begin(kid, int(top.to)) {
				return api.ErrFuel
			}
			goto ask
		}
		if !m.burn() {
			return api.ErrFuel
		}
		if u.Kind == api.Rep && u.Max < 0 && r.state == matched && r.to == top.to {
			return api.ErrLoop
		}
		r = by[u.Kind](u, top, r)
	}
	m.note(top.id, int(top.at), r)
	m.open = m.open[:len(m.open)-1]
	if len(m.open) > 0 {
		goto ask
	}
	return api.OK
}

// alone is what comes of a node that asks for nothing; of others nothing is known yet.
func (m *machine) alone(u *unit, at int) result {
	here := result{state: matched, to: int16(at)}
	switch {
	case u.Kind == api.Empty, u.Kind == api.Rep && u.Max == 0:
		return here
	case u.Kind == api.Set:
		if at < len(m.input) && u.Set[m.input[at]/64]>>(m.input[at]%64)&1 == 1 {
			return result{state: matched, to: int16(at + 1)}
		}
		return result{state: failed}
	case u.Kind == api.Text:
		if strings.HasPrefix(m.input[at:], u.Text) {
			return result{state: matched, to: int16(at + len(u.Text))}
		}
		return result{state: failed}
	}
	return result{}
}

// asks is the kid whose outcome is asked for next.
func (m *machine) asks(u *unit, t *task) int32 {
	if u.Kind == api.Seq || u.Kind == api.Choice {
		return u.kids[t.times]
	}
	return u.kids[0]
}

// handlers is what a node does with what it is handed, by its kind: it is worked out, or (unknown) asks for more.
func handlers() [api.Cap + 1]func(u *unit, t *task, r result) result {
	same := func(_ *unit, _ *task, r result) result { return r }
	return [...]func(u *unit, t *task, r result) result{
		api.Rule: same, api.Seq: seq, api.Choice: choice, api.Rep: rep,
		api.And: func(_ *unit, t *task, r result) result { return ahead(t, r.state == matched) },
		api.Not: func(_ *unit, t *task, r result) result { return ahead(t, r.state == failed) },
		api.Cap: capture,
	}
}

func more(a, b int32) int32 { return min(a+b, api.MaxCaps+1) }

func (t *task) matches() result { return result{state: matched, to: t.to, count: t.count} }

// takes puts what a kid matched to what was matched ahead.
func (t *task) takes(r result) {
	t.times++
	t.to, t.count = r.to, more(t.count, r.count)
}

func seq(u *unit, t *task, r result) result {
	if r.state == failed {
		return r
	}
	if t.takes(r); int(t.times) < len(u.kids) {
		return result{}
	}
	return t.matches()
}

func choice(u *unit, t *task, r result) result {
	if t.times++; r.state == failed && int(t.times) < len(u.kids) {
		return result{}
	}
	return r
}

func rep(u *unit, t *task, r result) result {
	if r.state == matched {
		if t.takes(r); int(t.times) != u.Max {
			return result{}
		}
		return t.matches()
	}
	if int(t.times) < u.Min {
		return result{state: failed}
	}
	return t.matches()
}

func ahead(t *task, is bool) result {
	if is {
		return result{state: matched, to: t.at}
	}
	return result{state: failed}
}

func capture(_ *unit, _ *task, r result) result {
	if r.state == matched {
		r.count = more(r.count, 1)
	}
	return r
}

// part is a node at a place, whose captures are still to be told.
type part struct {
	id int32
	at int16
}

// outcome is a match that was worked out, with its captures.
func (m *machine) outcome(root int32, at int) api.Outcome {
	r := m.known(root, at)
	o := span.At(int(r.to))
	left := []part{{root, int16(at)}}
	if r.count == 0 {
		left = nil
	}
	for len(left) > 0 {
		p := left[len(left)-1]
		left = left[:len(left)-1]
		u := &m.units[p.id]
		if u.Kind == api.Cap {
			o.Captures = append(o.Captures, api.Capture{Name: u.Text, From: int(p.at), To: int(m.known(p.id, int(p.at)).to)})
		}
		kids := m.parts(u, p.at)
		for i := len(kids) - 1; i >= 0; i-- {
			if m.known(kids[i].id, int(kids[i].at)).count > 0 {
				left = append(left, kids[i])
			}
		}
	}
	return o
}

// parts is what a match with captures was put together of.
func (m *machine) parts(u *unit, at int16) []part {
	var out []part
	switch u.Kind {
	case api.Choice:
		for _, kid := range u.kids {
			if m.known(kid, int(at)).state == matched {
				return []part{{kid, at}}
			}
		}
	case api.Rep:
		for r := m.known(u.kids[0], int(at)); r.state == matched && len(out) != u.Max; r = m.known(u.kids[0], int(at)) {
			out = append(out, part{u.kids[0], at})
			at = r.to
		}
	default:
		for _, kid := range u.kids {
			out = append(out, part{kid, at})
			at = m.known(kid, int(at)).to
		}
	}
	return out
}
