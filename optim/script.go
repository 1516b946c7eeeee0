package optim

import (
	"iter"
	"slices"
	"strings"

	"bonsai/api"
	"bonsai/name"
)

// Word is a pass, and its budget.
type Word struct {
	Pass   uint8
	Budget int
}

// Script is a run of words, or rounds by cost.
type Script struct {
	Cost           bool
	Words          []Word
	Rounds, Budget int
	Only           []uint8
}

// May tells whether a script may be.
func May(s Script) bool {
	if !s.Cost {
		for _, w := range s.Words {
			if !isPass(w.Pass) || w.Budget < 0 || w.Budget > api.MaxBudget {
				return false
			}
		}
		return s.Rounds == 0 && s.Budget == 0 && len(s.Only) == 0 && fits(s)
	}
	for i, n := range s.Only {
		if !isPass(n) || i > 0 && n <= s.Only[i-1] {
			return false
		}
	}
	return len(s.Words) == 0 && len(s.Only) > 0 && s.Rounds >= 0 && s.Rounds <= api.MaxRounds && s.Budget >= 1 && s.Budget <= api.MaxBudget && fits(s)
}

// fits tells whether a script comes to as many items as there may be.
func fits(s Script) bool {
	items := s.Rounds * (len(s.Only)*s.Budget + 1)
	for _, w := range s.Words {
		items += w.Budget + 1
	}
	return items <= api.MaxItems
}

// Parse is the script that a text is.
func Parse(text string) (s Script, at int, e api.Errno) {
	if len(text) > api.MaxSource {
		return Script{}, api.MaxSource, api.ErrTooLarge
	}
	var r reader
	for at, e := range r.words(text) {
		if e != api.OK {
			return Script{}, at, e
		}
	}
	if r.take == nil || !fits(r.s) {
		return Script{}, len(text), api.ErrOption
	}
	return r.s, 0, api.OK
}

// Show is a script's text.
func Show(s Script) string {
	if !May(s) {
		return ""
	}
	var out strings.Builder
	if !s.Cost {
		out.WriteString("run")
		for _, w := range s.Words {
			out.WriteString(" " + Name(w.Pass) + ":" + name.Show(w.Budget))
		}
		return out.String()
	}
	var only []string
	for _, n := range s.Only {
		only = append(only, Name(n))
	}
	return "cost rounds:" + name.Show(s.Rounds) + " budget:" + name.Show(s.Budget) + " only:" + strings.Join(only, ",")
}

// reader has what was read of a script, and how its next word is read; what was said twice is no option.
type reader struct {
	s     Script
	take  func(word string) api.Errno
	there struct{ rounds, budget, only bool }
}

// words tells for each word where it stands, and what is wrong with it, up to the first one that is none.
func (r *reader) words(text string) iter.Seq2[int, api.Errno] {
	return func(yield func(int, api.Errno) bool) {
		for at := 0; at < len(text); {
			if text[at] == ' ' {
				at++
				continue
			}
			word, _, _ := strings.Cut(text[at:], " ")
			e := r.word(word)
			if !yield(at, e) || e != api.OK {
				return
			}
			at += len(word)
		}
	}
}

func (r *reader) word(word string) api.Errno {
	switch {
	case r.take != nil:
		return r.take(word)
	case word == "run":
		r.take = r.run
	case word == "cost":
		r.take = r.option
		r.s = Script{Cost: true, Rounds: 10, Budget: 10}
		for n := api.Inline; n <= api.Prune; n++ {
			r.s.Only = append(r.s.Only, n)
		}
	default:
		return api.ErrOption
	}
	return api.OK
}

// run reads a pass, and its budget.
func (r *reader) run(word string) api.Errno {
	first, rest, _ := strings.Cut(word, ":")
	n, e := name.Num(rest, api.MaxBudget)
	if e != api.OK {
		return api.ErrOption
	}
	pass := number(first)
	if pass == 0 {
		return api.ErrPass
	}
	r.s.Words = append(r.s.Words, Word{Pass: pass, Budget: n})
	return api.OK
}

func (r *reader) option(word string) api.Errno {
	first, rest, parted := strings.Cut(word, ":")
	switch {
	case !parted:
	case first == "rounds" && !r.there.rounds:
		r.there.rounds = true
		return r.rounds(rest)
	case first == "budget" && !r.there.budget:
		r.there.budget = true
		n, e := name.Num(rest, api.MaxBudget)
		if e == api.OK && n > 0 {
			r.s.Budget = n
			return api.OK
		}
	case first == "only" && !r.there.only:
		r.there.only = true
		return r.only(strings.Split(rest, ","))
	}
	return api.ErrOption
}

func (r *reader) rounds(text string) api.Errno {
	if digits, below := strings.CutPrefix(text, "-"); below {
		r.s.Rounds = 0
		if _, e := name.Num(digits, 0); e == api.ErrForm {
			return api.ErrOption
		}
		return api.OK
	}
	n, e := name.Num(text, api.MaxRounds)
	if e != api.OK {
		return api.ErrOption
	}
	r.s.Rounds = n
	return api.OK
}

func (r *reader) only(names []string) api.Errno {
	var on []uint8
	e := api.OK
	there := map[string]int{}
	for _, s := range names {
		if there[s]++; there[s] > 1 {
			return api.ErrOption
		}
		n := number(s)
		if n == 0 {
			e = api.ErrPass
		}
		on = append(on, n)
	}
	slices.Sort(on)
	r.s.Only = on
	return e
}

// number is the pass of a name; 0: there is none.
func number(s string) uint8 {
	for n := api.Inline; n <= api.Prune; n++ {
		if Name(n) == s {
			return n
		}
	}
	return 0
}
