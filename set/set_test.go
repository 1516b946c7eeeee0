package set_test

import (
	"bytes"
	"strings"
	"testing"

	"bonsai/api"
	"bonsai/sample"
	"bonsai/set"
)

// members is a set's bytes, asked for by the bits of its words.
func members(s api.Bytes) []byte {
	var out []byte
	for b := 0; b < 256; b++ {
		if s[b/64]&(1<<(b%64)) != 0 {
			out = append(out, byte(b))
		}
	}
	return out
}

func sets(n int) []api.Bytes {
	src := sample.New(1)
	out := []api.Bytes{{}, {1}, {1 << 63}, {0, 0, 0, 1 << 63}, {^uint64(0), ^uint64(0), ^uint64(0), ^uint64(0)}, {1 << 63, 1}, {0, ^uint64(0)}}
	for len(out) < n {
		out = append(out, src.Set())
	}
	return out
}

func TestExamples(t *testing.T) {
	x := set.Of("ba")
	if set.Len(x) != 2 || set.List(x) != "ab" {
		t.Error("Of", x)
	}
	if l := set.Runs(x); len(l) != 1 || l[0] != [2]byte{'a', 'b'} {
		t.Error("Runs", l)
	}
	if set.Range('z', 'a') != (api.Bytes{}) {
		t.Error("Range of none")
	}
	if set.Not(api.Bytes{}) != set.All() || set.Len(set.All()) != 256 {
		t.Error("All")
	}
	if b, is := set.Only(set.Of("x")); b != 'x' || !is {
		t.Error("Only", b, is)
	}
	if b, is := set.Only(set.Of("xy")); b != 0 || is {
		t.Error("Only of two", b, is)
	}
	if b, is := set.Only(api.Bytes{}); b != 0 || is {
		t.Error("Only of none", b, is)
	}
	if set.Compare(set.Of("a"), set.Of("ab")) != -1 || set.Compare(set.Of("b"), set.Of("ac")) != 1 || set.Compare(set.Of("ac"), set.Of("b")) != -1 {
		t.Error("Compare")
	}
}

// P1.1, P1.3
func TestOfAndRange(t *testing.T) {
	if set.Of("") != (api.Bytes{}) || set.List(api.Bytes{}) != "" || set.Len(api.Bytes{}) != 0 {
		t.Error("none")
	}
	if set.Of("aab\xff\x00a") != set.Of("\x00ab\xff") || set.Len(set.Of("aa")) != 1 {
		t.Error("twice")
	}
	if set.Of("\x00") != (api.Bytes{1}) || set.Of("\x3f\x40") != (api.Bytes{1 << 63, 1}) || set.Of("\xff") != (api.Bytes{0, 0, 0, 1 << 63}) {
		t.Error("bits")
	}
	for a := 0; a < 256; a++ {
		for _, b := range []int{0, a - 1, a, a + 1, a + 70, 255} {
			if b < 0 || b > 255 {
				continue
			}
			r := set.Range(byte(a), byte(b))
			for c := 0; c < 256; c++ {
				if set.Has(r, byte(c)) != (a <= c && c <= b) {
					t.Fatal("Range", a, b, c)
				}
			}
		}
	}
	if set.Range(0, 255) != set.All() {
		t.Error("Range of all")
	}
}

// P1.1, P1.3
func TestMembers(t *testing.T) {
	for _, x := range sets(200) {
		m := members(x)
		if set.Len(x) != len(m) || set.List(x) != string(m) || set.Of(string(m)) != x {
			t.Fatal("List", x)
		}
		b, is := set.Only(x)
		if is != (len(m) == 1) || is && b != m[0] || !is && b != 0 {
			t.Fatal("Only", x)
		}
		for c := 0; c < 256; c++ {
			if set.Has(x, byte(c)) != (bytes.IndexByte(m, byte(c)) >= 0) {
				t.Fatal("Has", x, c)
			}
		}
	}
}

// P1.2, P1.3, P1.4
func TestTwo(t *testing.T) {
	for _, x := range sets(60) {
		for _, y := range sets(60) {
			or, and, minus, not := set.Or(x, y), set.And(x, y), set.Minus(x, y), set.Not(x)
			meets, subset := false, true
			for c := 0; c < 256; c++ {
				b := byte(c)
				p, q := set.Has(x, b), set.Has(y, b)
				meets, subset = meets || p && q, subset && (!p || q)
				if set.Has(or, b) != (p || q) || set.Has(and, b) != (p && q) || set.Has(minus, b) != (p && !q) || set.Has(not, b) == p {
					t.Fatal("byte", x, y, c)
				}
			}
			if set.Meets(x, y) != meets || set.Subset(x, y) != subset {
				t.Fatal("Meets, Subset", x, y)
			}
			if set.Not(not) != x || set.Not(or) != set.And(not, set.Not(y)) || minus != set.And(x, set.Not(y)) {
				t.Fatal("laws", x, y)
			}
			if (x == y) != (set.List(x) == set.List(y)) {
				t.Fatal("the same", x, y)
			}
			if subset != (or == y) || meets != (and != api.Bytes{}) {
				t.Fatal("order", x, y)
			}
			if set.Compare(x, y) != strings.Compare(string(members(x)), string(members(y))) || set.Compare(x, y) != -set.Compare(y, x) {
				t.Fatal("Compare", x, y)
			}
		}
	}
}

// P1.5
func TestRuns(t *testing.T) {
	if len(set.Runs(api.Bytes{})) != 0 {
		t.Error("Runs of none")
	}
	if l := set.Runs(set.All()); len(l) != 1 || l[0] != [2]byte{0, 255} {
		t.Error("Runs of all", l)
	}
	for _, x := range sets(200) {
		var back api.Bytes
		n, last := 0, -2
		for _, r := range set.Runs(x) {
			if int(r[0]) <= last+1 || r[1] < r[0] {
				t.Fatal("a row", x, r)
			}
			last = int(r[1])
			n += int(r[1]) - int(r[0]) + 1
			back = set.Or(back, set.Range(r[0], r[1]))
		}
		if back != x || n != set.Len(x) {
			t.Fatal("Runs", x)
		}
	}
}

// P1.6
func TestRow(t *testing.T) {
	l := sets(40)
	for _, x := range l {
		for _, y := range l {
			for _, z := range l {
				if set.Compare(x, y) <= 0 && set.Compare(y, z) <= 0 && set.Compare(x, z) > 0 {
					t.Fatal(x, y, z)
				}
			}
			if (set.Compare(x, y) == 0) != (x == y) {
				t.Fatal(x, y)
			}
		}
	}
}
