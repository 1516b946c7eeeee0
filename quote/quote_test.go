package quote_test

import (
	"strings"
	"testing"

	"bonsai/api"
	"bonsai/quote"
	"bonsai/sample"
	"bonsai/set"
)

// P3.1
func TestLiteral(t *testing.T) {
	for _, x := range [][2]string{
		{"", `""`}, {"a\"\n\x00", `"a\"\n\x00"`}, {"\r\t\\", `"\r\t\\"`}, {"]-^[", `"]-^["`}, {"\x1f ~\x7f\xff", `"\x1f ~\x7f\xff"`}, {"\xab", `"\xab"`}, {"'", `"'"`},
	} {
		if got := quote.Literal(x[0]); got != x[1] {
			t.Errorf("%q: %s", x[0], got)
		}
	}
	long := strings.Repeat("\x00", 300)
	if got := quote.Literal(long); got != `"`+strings.Repeat(`\x00`, 300)+`"` {
		t.Error("long", got)
	}
}

// P3.1, with its errors
func TestUnliteral(t *testing.T) {
	for _, x := range []struct {
		t, s string
		n    int
		e    api.Errno
	}{
		{`"\x4A"x`, "J", 6, api.OK}, {`"\x4a"`, "J", 6, api.OK}, {`""`, "", 2, api.OK}, {`"""`, "", 2, api.OK}, {`"a b"c"`, "a b", 5, api.OK},
		{`"\n\r\t\\\""`, "\n\r\t\\\"", 12, api.OK}, {`"]-^#"`, "]-^#", 6, api.OK}, {`"\xfF"`, "\xff", 6, api.OK},
		{``, "", 0, api.ErrShort}, {`"`, "", 1, api.ErrShort}, {`"ab`, "", 3, api.ErrShort}, {`"\`, "", 2, api.ErrShort}, {`"\x`, "", 3, api.ErrShort}, {`"\x4`, "", 4, api.ErrShort}, {`"\x41`, "", 5, api.ErrShort}, {`"\"`, "", 3, api.ErrShort},
		{`x""`, "", 0, api.ErrForm}, {` ""`, "", 0, api.ErrForm}, {`'a'`, "", 0, api.ErrForm}, {`[a]`, "", 0, api.ErrForm},
		{"\"a\n\"", "", 2, api.ErrForm}, {"\"\x7f\"", "", 1, api.ErrForm}, {"\"\x1f\"", "", 1, api.ErrForm}, {"\"\xe4\"", "", 1, api.ErrForm}, {"\"ab\x00", "", 3, api.ErrForm},
		{`"\q"`, "", 2, api.ErrForm}, {`"\]"`, "", 2, api.ErrForm}, {`"\-"`, "", 2, api.ErrForm}, {`"\^"`, "", 2, api.ErrForm}, {`"\N"`, "", 2, api.ErrForm}, {`"\X41"`, "", 2, api.ErrForm},
		{`"\xg1"`, "", 3, api.ErrForm}, {`"\x1g"`, "", 4, api.ErrForm}, {`"\x1G`, "", 4, api.ErrForm}, {`"\x"`, "", 3, api.ErrForm}, {`"\x1"`, "", 4, api.ErrForm}, {`"\x@`, "", 3, api.ErrForm}, {"\"\\x`0\"", "", 3, api.ErrForm},
		{"\"a\\\n\"", "", 3, api.ErrForm},
		{`"` + strings.Repeat("a", 255) + `"`, strings.Repeat("a", 255), 257, api.OK},
		{`"` + strings.Repeat("a", 256) + `"`, "", 0, api.ErrTooLarge},
		{`"` + strings.Repeat(`\x61`, 255) + `"`, strings.Repeat("a", 255), 1022, api.OK},
		{`"` + strings.Repeat("a", 256), "", 257, api.ErrShort},
		{`"` + strings.Repeat("a", 256) + "\n", "", 257, api.ErrForm},
	} {
		if s, n, e := quote.Unliteral(x.t); s != x.s || n != x.n || e != x.e {
			t.Errorf("%q: %q %d %v", x.t, s, n, e)
		}
	}
}

// P3.2
func TestClass(t *testing.T) {
	for _, x := range []struct {
		s    api.Bytes
		want string
	}{
		{set.Or(set.Range('a', 'd'), set.Of("-")), `[\-a-d]`}, {set.Of("ab"), "[ab]"}, {api.Bytes{}, "[]"}, {set.All(), "."}, {set.Of("a"), "[a]"},
		{set.Of("abc"), "[a-c]"}, {set.Of("]^\\"), `[\\-\^]`}, {set.Of("^"), `[\^]`}, {set.Of("\"."), `[".]`}, {set.Range(0, 31), `[\x00-\x1f]`}, {set.Of("\n\t\r"), `[\t\n\r]`},
		{set.Not(set.Of("a")), "[\\x00-`b-\\xff]"}, {set.Range(1, 255), `[\x01-\xff]`}, {set.Of("+,-"), `[+-\-]`}, {set.Of("\x7f\xff"), `[\x7f\xff]`},
	} {
		if got := quote.Class(x.s); got != x.want {
			t.Errorf("%v: %s, not %s", x.s, got, x.want)
		}
	}
}

// P3.2, with its errors; P3.6
func TestUnclass(t *testing.T) {
	for _, x := range []struct {
		t string
		s api.Bytes
		n int
		e api.Errno
	}{
		{"[^a]", set.Not(set.Of("a")), 4, api.OK}, {"[]", api.Bytes{}, 2, api.OK}, {"[^]", set.All(), 3, api.OK}, {"[]]", api.Bytes{}, 2, api.OK},
		{"[a-c]x", set.Of("abc"), 5, api.OK}, {"[a-a]", set.Of("a"), 5, api.OK}, {"[aa-cb]", set.Of("abc"), 7, api.OK}, {`[\]\-\^\\]`, set.Of("]-^\\"), 10, api.OK},
		{`[\x41-\x43]`, set.Of("ABC"), 11, api.OK}, {`[\n-\r]`, set.Range(10, 13), 7, api.OK}, {`["#.]`, set.Of("\"#."), 5, api.OK}, {`[^\^-\^]`, set.Not(set.Of("^")), 8, api.OK}, {`[\t[ ]`, set.Of("\t[ "), 6, api.OK}, {`[\xFf]`, set.Of("\xff"), 6, api.OK},
		{"", api.Bytes{}, 0, api.ErrShort}, {"[", api.Bytes{}, 1, api.ErrShort}, {"[^", api.Bytes{}, 2, api.ErrShort}, {"[a", api.Bytes{}, 2, api.ErrShort}, {"[a-", api.Bytes{}, 3, api.ErrShort}, {"[a-c", api.Bytes{}, 4, api.ErrShort}, {`[\`, api.Bytes{}, 2, api.ErrShort}, {`[\x`, api.Bytes{}, 3, api.ErrShort}, {`[a-\x6`, api.Bytes{}, 6, api.ErrShort}, {`[b-\`, api.Bytes{}, 4, api.ErrShort},
		{".", api.Bytes{}, 0, api.ErrForm}, {"a", api.Bytes{}, 0, api.ErrForm}, {" []", api.Bytes{}, 0, api.ErrForm}, {"[b-a]", api.Bytes{}, 1, api.ErrForm}, {"[b-a", api.Bytes{}, 1, api.ErrForm}, {"[a^]", api.Bytes{}, 2, api.ErrForm}, {"[^^]", api.Bytes{}, 2, api.ErrForm},
		{"[-a]", api.Bytes{}, 1, api.ErrForm}, {"[a-]", api.Bytes{}, 3, api.ErrForm}, {"[a-b-c]", api.Bytes{}, 4, api.ErrForm}, {"[a--]", api.Bytes{}, 3, api.ErrForm}, {"[a-^]", api.Bytes{}, 3, api.ErrForm}, {`[x\x62-a]`, api.Bytes{}, 2, api.ErrForm}, {`[ab-c^`, api.Bytes{}, 5, api.ErrForm}, {`[^c-b]`, api.Bytes{}, 2, api.ErrForm},
		{`[\"]`, api.Bytes{}, 2, api.ErrForm}, {`[\q]`, api.Bytes{}, 2, api.ErrForm}, {`[\[]`, api.Bytes{}, 2, api.ErrForm}, {`[\xg0]`, api.Bytes{}, 3, api.ErrForm}, {`[\x0g]`, api.Bytes{}, 4, api.ErrForm}, {`[b-\xg]`, api.Bytes{}, 5, api.ErrForm}, {"[\n]", api.Bytes{}, 1, api.ErrForm}, {"[a-\n]", api.Bytes{}, 3, api.ErrForm}, {"[a\x7f]", api.Bytes{}, 2, api.ErrForm}, {"[\x80]", api.Bytes{}, 1, api.ErrForm},
	} {
		if s, n, e := quote.Unclass(x.t); s != x.s || n != x.n || e != x.e {
			t.Errorf("%q: %v %d %v", x.t, s, n, e)
		}
	}
}

// P3.3, P3.4
func TestThereAndBack(t *testing.T) {
	src := sample.New(5)
	for range 3000 {
		s := src.Bytes(src.Below(12))
		if src.OneIn(2) {
			s = src.Word(src.Below(12), "ab\"\\\n\r\t]-^\x00x")
		}
		behind := src.Bytes(src.Below(4))
		l := quote.Literal(s)
		if back, n, e := quote.Unliteral(l + behind); back != s || n != len(l) || e != api.OK {
			t.Fatalf("%q %q: %q %d %v", s, behind, back, n, e)
		}
		printable(t, l, '"')
		c := src.Set()
		if src.OneIn(2) {
			c = set.Of(s)
		}
		k := quote.Class(c)
		printable(t, k, ']')
		if c == set.All() {
			continue
		}
		if back, n, e := quote.Unclass(k + behind); back != c || n != len(k) || e != api.OK {
			t.Fatalf("%s: %v %d %v", k, back, n, e)
		}
	}
	for c := 0; c < 256; c++ {
		one := string([]byte{byte(c)})
		if back, _, e := quote.Unliteral(quote.Literal(one)); back != one || e != api.OK {
			t.Error(c)
		}
		if back, _, e := quote.Unclass(quote.Class(set.Of(one))); back != set.Of(one) || e != api.OK {
			t.Error(c)
		}
	}
	for _, n := range []int{254, 255} {
		s := strings.Repeat("\xff", n)
		if back, _, e := quote.Unliteral(quote.Literal(s)); back != s || e != api.OK {
			t.Error(n, e)
		}
	}
}

// printable holds a text against P3.4: an end stands bare at its end alone.
func printable(t *testing.T, s string, end byte) {
	t.Helper()
	for i := 0; i < len(s); i++ {
		if s[i] < 32 || s[i] > 126 {
			t.Fatalf("%q", s)
		}
		if s[i] == '\\' {
			i++
		} else if s[i] == end && i > 0 && i < len(s)-1 {
			t.Fatalf("%q", s)
		}
	}
}

// P3.5, P3.6
func TestShortest(t *testing.T) {
	src := sample.New(6)
	for range 20000 {
		s := src.Word(src.Below(9), `ab\x4"n-]^`)
		if back, n, e := quote.Unliteral(`"` + s + `"`); e == api.OK && len(quote.Literal(back)) > n {
			t.Fatal(s)
		}
		c, n, e := quote.Unclass("[" + s + "]")
		if e == api.OK && !strings.HasPrefix(s, "^") && len(quote.Class(c)) > n {
			t.Fatal(s)
		}
		other, m, f := quote.Unclass("[^" + s + "]")
		if !strings.HasPrefix(s, "^") && (f != e || e == api.OK && (other != set.Not(c) || m != n+1)) {
			t.Fatal(s)
		}
		if n > len(s)+2 || n < 0 {
			t.Fatal(s, n)
		}
	}
}

// P3.7
func TestRow(t *testing.T) {
	src := sample.New(7)
	for range 300 {
		var l []string
		text := ""
		for range src.Below(6) {
			l = append(l, src.Bytes(src.Below(5)))
			text += quote.Literal(l[len(l)-1])
		}
		for _, want := range l {
			s, n, e := quote.Unliteral(text)
			if s != want || e != api.OK {
				t.Fatalf("%q: %q %v", text, s, e)
			}
			text = text[n:]
		}
		if text != "" {
			t.Fatal(text)
		}
	}
}
