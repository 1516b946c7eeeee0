package redex

import (
	"slices"
	"strings"

	"bonsai/api"
	"bonsai/gram"
	"bonsai/path"
	"bonsai/print"
	"bonsai/sample"
	"bonsai/span"
	"bonsai/table"
	"bonsai/tree"
	"bonsai/well"
)

// Pass is a pass's calls.
type Pass struct {
	Number uint8
	Steps  func(g api.Grammar) []api.Step
	First  func(g api.Grammar) (api.Step, bool)
	Do     func(g api.Grammar, s api.Step) (api.Grammar, api.Errno)
}

// Same tells whether two steps are the same.
func Same(a, b api.Step) bool {
	return a.Pass == b.Pass && a.Way == b.Way && a.Rule == b.Rule && a.At == b.At && slices.Equal(a.Path, b.Path)
}

// Fault is what a pass has wrong of a grammar; empty: nothing.
func (p Pass) Fault(g api.Grammar, s *sample.Source) string {
	before := gram.Copy(g)
	e := well.Check(g)
	steps := p.Steps(g)
	one, ok := p.First(g)
	if e != api.OK {
		out, f := p.Do(g, api.Step{Pass: p.Number, Way: 1})
		if len(steps) > 0 || ok || f != e || len(out.Rules) > 0 || !Same(one, api.Step{}) {
			return "of one that is not well-formed"
		}
		return ""
	}
	want := Steps(g, p.Number)
	if !slices.EqualFunc(steps, want, Same) {
		return "the steps of " + print.Grammar(g)
	}
	if ok != (len(want) > 0) || ok && !Same(one, want[0]) || !ok && !Same(one, api.Step{}) {
		return "the first step of " + print.Grammar(g)
	}
	if fault := p.doFault(g, want, s); fault != "" {
		return fault
	}
	spoil(steps)
	if !gram.Same(before, g) || !slices.EqualFunc(p.Steps(g), want, Same) {
		return "memory is shared"
	}
	return ""
}

func spoil(steps []api.Step) {
	for i := range steps {
		_ = append(steps[i].Path, -9)
		for j := range steps[i].Path {
			steps[i].Path[j] = -8
		}
	}
}

func (p Pass) doFault(g api.Grammar, steps []api.Step, s *sample.Source) string {
	for _, step := range steps {
		out, e := p.Do(g, step)
		want, _ := Do(g, step)
		if e != api.OK || !gram.Same(out, want) {
			return "what comes of a step of " + print.Grammar(g) + " is " + print.Grammar(out)
		}
		if well.Check(out) != api.OK || out.Rules[0].Name != g.Rules[0].Name || !alike(g, out, s) {
			return "the meaning of " + print.Grammar(g) + " and " + print.Grammar(out)
		}
	}
	if s.OneIn(10) {
		for _, step := range Near(g, p.Number) {
			out, e := p.Do(g, step)
			if is := slices.ContainsFunc(steps, func(one api.Step) bool { return Same(one, step) }); is != (e == api.OK) || !is && (e != api.ErrStep || len(out.Rules) > 0) {
				return "what is no step of " + print.Grammar(g)
			}
		}
	}
	for range 12 {
		step := Other(g, p.Number, steps, s)
		is := step.Pass == p.Number
		if is {
			_, is = Do(g, step)
		}
		out, e := p.Do(g, step)
		if !is && (e != api.ErrStep || len(out.Rules) > 0) || is && e != api.OK {
			return "what is no step of " + print.Grammar(g)
		}
	}
	return ""
}

// Near is all that a step of a pass may look like, at the places of a grammar that may be.
func Near(g api.Grammar, pass uint8) []api.Step {
	var out []api.Step
	for _, p := range path.All(g) {
		x, _ := path.Find(g, p)
		for way := range Ways(pass) + 2 {
			for at := -1; at <= max(1, len(tree.Kids(x))); at++ {
				out = append(out, api.Step{Pass: pass, Way: way, Rule: p.Rule, Path: p.Path, At: at})
			}
			out = append(out, api.Step{Pass: pass, Way: way, Rule: p.Rule, Path: p.Path, At: 1<<63 - 1})
		}
	}
	return out
}

// Filled is the text of a rule whose body begins by what is said, and has literals behind it, so that it has so many bytes.
func Filled(begin string, size int) string {
	text := "a <- " + begin
	x, y := "x", "y"
	for left := size - len(text) - 1; left > 0; left = size - len(text) - 1 {
		n := min(left-3, api.MaxLiteral)
		if left-3-n > 0 && left-3-n < 4 {
			n -= 4
		}
		// No two that stand next to each other are the same.
		text += " \"" + strings.Repeat(x, n) + "\""
		x, y = y, x
	}
	return text + "\n"
}

// Other is a step that mostly is none.
func Other(g api.Grammar, pass uint8, steps []api.Step, s *sample.Source) api.Step {
	out := api.Step{Pass: pass, Way: uint8(s.Below(12)), Rule: s.Below(len(g.Rules)+2) - 1, At: s.Below(4) - 1}
	for range s.Below(3) {
		out.Path = append(out.Path, s.Below(3)-s.Below(2))
	}
	if len(steps) == 0 || s.OneIn(4) {
		return out
	}
	near := steps[s.Below(len(steps))]
	near.Path = slices.Clone(near.Path)
	switch s.Below(6) {
	case 0:
		near.Pass = uint8(s.Below(9))
	case 1:
		near.Way = uint8(s.Next())
	case 2:
		near.Rule = []int{-1, 64, 1<<63 - 1, near.Rule + 1}[s.Below(4)]
	case 3:
		near.At = []int{-1, near.At + 1, 1<<63 - 1, -1 << 63}[s.Below(4)]
	case 4:
		near.Path = append(near.Path, 0)
	case 5:
		near.Path = append(near.Path, s.Below(2), []int{-1, 1<<63 - 1, -1 << 63}[s.Below(3)])
	}
	return near
}

// alike tells whether each rule that is left comes to the same, on some inputs, at each place.
func alike(a, b api.Grammar, s *sample.Source) bool {
	for range 3 {
		input := s.Input(5)
		one, e := table.New(a, input)
		two, f := table.New(b, input)
		if e != api.OK || f != api.OK {
			return false
		}
		for i, d := range b.Rules {
			for at := range len(input) + 1 {
				x, e := one.Outcome(gram.Find(a, d.Name), at)
				y, f := two.Outcome(i, at)
				if e != api.OK || f != api.OK || !span.Same(x, y) {
					return false
				}
			}
		}
	}
	return true
}
