package log

import "bonsai/api"

// write puts numbers behind other bytes.
func write(out []byte, numbers ...int) []byte {
	for _, n := range numbers {
		for n > 127 {
			out = append(out, byte(n)|128)
			n >>= 7
		}
		out = append(out, byte(n))
	}
	return out
}

// reader takes numbers from what is left, up to an error.
type reader struct {
	rest string
	e    api.Errno
}

// number takes one that is most at most; behind an error it is 0.
func (r *reader) number(most int) int {
	n, shift := 0, 0
	if r.e != api.OK {
		return 0
	}
next:
	if r.rest == "" {
		r.e = api.ErrShort
		return 0
	}
	b := r.rest[0]
	r.rest = r.rest[1:]
	n |= int(b&127) << shift
	shift += 7
	// At the fifth byte no number may go on; a last byte of nothing was not needed.
	if n > most || b > 127 && shift == 35 || b == 0 && shift > 7 {
		r.e = api.ErrForm
		return 0
	}
	if b > 127 {
		goto next
	}
	return n
}

// item takes one; behind an error it is nothing that may be told.
func (r *reader) item() Item {
	pass := r.number(255)
	if pass == 0 {
		return Item{Mark: true}
	}
	x := Item{Step: api.Step{Pass: uint8(pass), Way: uint8(r.number(255)), Rule: r.number(MaxNumber)}}
	for range r.number(api.MaxDepth) {
		x.Step.Path = append(x.Step.Path, r.number(MaxNumber))
	}
	x.Step.At = r.number(MaxNumber)
	return x
}
