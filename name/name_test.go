package name_test

import (
	"math"
	"slices"
	"strconv"
	"strings"
	"testing"

	"bonsai/api"
	"bonsai/name"
	"bonsai/sample"
)

const letters = "abcdefghijklmnopqrstuvwxyzABCDEFGHIJKLMNOPQRSTUVWXYZ_"

// P2.1
func TestLetter(t *testing.T) {
	for c := 0; c < 256; c++ {
		if name.Letter(byte(c)) != (strings.IndexByte(letters, byte(c)) >= 0) {
			t.Error(c)
		}
	}
}

// P2.1
func TestMay(t *testing.T) {
	for _, s := range []string{"a_1", "_", "Z9", "a", strings.Repeat("a", 32), "a" + strings.Repeat("9", 31)} {
		if !name.May(s) {
			t.Error(s)
		}
	}
	for _, s := range []string{"", "1a", "a-b", strings.Repeat("a", 33), "9", " a", "a ", "a.", "\xe4", "a\x00", "-a"} {
		if name.May(s) {
			t.Error(s)
		}
	}
}

// P2.1, P2.4
func TestTake(t *testing.T) {
	for _, x := range [][2]string{{"ab+c", "ab"}, {"", ""}, {"1a", ""}, {"+", ""}, {"a", "a"}, {"_1_ b", "_1_"}, {strings.Repeat("q", 40) + "-", strings.Repeat("q", 40)}, {"Zz09@", "Zz09"}, {"a`", "a"}, {"a{", "a"}, {"a[", "a"}, {"a/", "a"}, {"a:", "a"}} {
		if got := name.Take(x[0]); got != x[1] {
			t.Error(x, got)
		}
	}
	src := sample.New(2)
	for range 2000 {
		s := src.Word(src.Below(40), "ab1_-9Z ")
		w := name.Take(s)
		if !strings.HasPrefix(s, w) {
			t.Fatal(s, w)
		}
		if w != "" && len(w) <= api.MaxName && !name.May(w) {
			t.Fatal(s, w)
		}
		if w == "" && s != "" && name.Letter(s[0]) {
			t.Fatal(s)
		}
		if w != "" && len(w) < len(s) && (name.Letter(s[len(w)]) || s[len(w)] >= '0' && s[len(w)] <= '9') {
			t.Fatal(s, w)
		}
		if name.May(s) != (s != "" && w == s && len(s) <= api.MaxName) {
			t.Fatal(s)
		}
	}
}

// P2.1, with its errors
func TestNum(t *testing.T) {
	for _, x := range []struct {
		s    string
		most int
		n    int
		e    api.Errno
	}{
		{"0", 0, 0, api.OK}, {"0", 9, 0, api.OK}, {"7", 9, 7, api.OK}, {"12", 12, 12, api.OK}, {"12", 11, 0, api.ErrTooLarge},
		{"12", 13, 12, api.OK}, {"1", 0, 0, api.ErrTooLarge}, {"10", 9, 0, api.ErrTooLarge}, {"100", 99, 0, api.ErrTooLarge}, {"99", 99, 99, api.OK},
		{"07", 9, 0, api.ErrForm}, {"00", 9, 0, api.ErrForm}, {"", 9, 0, api.ErrForm}, {"-1", 9, 0, api.ErrForm}, {"+1", 9, 0, api.ErrForm},
		{"1a", 99, 0, api.ErrForm}, {"1 ", 99, 0, api.ErrForm}, {" 1", 99, 0, api.ErrForm}, {"1_0", 99, 0, api.ErrForm}, {"x", 99, 0, api.ErrForm},
		{"99999999999999999999999x", 9, 0, api.ErrForm}, {"55:", 5, 0, api.ErrForm}, {"55/", 5, 0, api.ErrForm},
		{"0", -1, 0, api.ErrTooLarge}, {"5", -1, 0, api.ErrTooLarge}, {"0", math.MinInt, 0, api.ErrTooLarge}, {"9", math.MinInt, 0, api.ErrTooLarge}, {"x", -1, 0, api.ErrForm}, {"00", -5, 0, api.ErrForm},
		{"9223372036854775807", math.MaxInt, math.MaxInt, api.OK}, {"9223372036854775808", math.MaxInt, 0, api.ErrTooLarge},
		{"18446744073709551617", math.MaxInt, 0, api.ErrTooLarge}, {"99999999999999999999999", math.MaxInt, 0, api.ErrTooLarge},
		{"9223372036854775807", math.MaxInt - 1, 0, api.ErrTooLarge},
		{strings.Repeat("9", 5000), math.MaxInt, 0, api.ErrTooLarge},
	} {
		if n, e := name.Num(x.s, x.most); n != x.n || e != x.e {
			t.Error(x, n, e)
		}
	}
}

// P2.3
func TestThereAndBack(t *testing.T) {
	if name.Show(-5) != "-5" || name.Show(0) != "0" || name.Show(math.MinInt) != "-9223372036854775808" {
		t.Error("Show")
	}
	src := sample.New(3)
	for i := range 3000 {
		n := i
		if i > 1000 {
			n = int(src.Next() >> (1 + src.Below(63)))
		}
		s := name.Show(n)
		if s != strconv.Itoa(n) {
			t.Fatal(n, s)
		}
		for _, most := range []int{n, math.MaxInt} {
			if back, e := name.Num(s, most); back != n || e != api.OK {
				t.Fatal(n, most, back, e)
			}
		}
		if back, e := name.Num(s, n-1); back != 0 || e != api.ErrTooLarge {
			t.Fatal(n, back, e)
		}
	}
	for range 3000 {
		s := src.Word(src.Below(5), "01239")
		if n, e := name.Num(s, 100000); e == api.OK && name.Show(n) != s {
			t.Fatal(s, n)
		} else if e != api.OK && (s == "0" || s != "" && s[0] != '0') {
			t.Fatal(s, e)
		}
	}
}

// P2.1, P2.5
func TestCompare(t *testing.T) {
	src := sample.New(4)
	l := []string{"", "a", "ab", "b", "B", "\xff", "\x00", "a\x00"}
	for range 30 {
		l = append(l, src.Word(src.Below(4), "abA\xff"))
	}
	if name.Compare("a", "ab") != -1 || name.Compare("b", "ab") != 1 || name.Compare("B", "a") != -1 || name.Compare("\xff", "z") != 1 || name.Compare("", "") != 0 {
		t.Error("Compare")
	}
	for _, a := range l {
		for _, b := range l {
			if c := name.Compare(a, b); c != -name.Compare(b, a) || (c == 0) != (a == b) || c != slices.Compare([]byte(a), []byte(b)) {
				t.Fatal(a, b, c)
			}
			for _, c := range l {
				if name.Compare(a, b) < 0 && name.Compare(b, c) < 0 && name.Compare(a, c) >= 0 {
					t.Fatal(a, b, c)
				}
			}
		}
	}
}

// P2.2, P2.6
func TestFree(t *testing.T) {
	long := strings.Repeat("a", 31)
	var used []string
	for n := 2; n <= 9; n++ {
		used = append(used, long+name.Show(n))
	}
	for _, x := range []struct {
		stem string
		used []string
		want string
	}{
		{"a", nil, "a"}, {"a", []string{"a"}, "a2"}, {"a", []string{"a", "a2"}, "a3"}, {"a", []string{"a2"}, "a"}, {"a", []string{"a", "a3"}, "a2"},
		{"a", []string{"b", "a", "a", "1"}, "a2"}, {"", nil, ""}, {"1", nil, ""}, {"a-", []string{}, ""}, {long + "ab", nil, ""},
		{long + "a", nil, long + "a"}, {long + "a", []string{long + "a"}, ""}, {long, []string{long}, long + "2"},
		{long, used, long}, {long, append(slices.Clone(used), long), ""}, {long, append([]string{long}, used[:7]...), long + "9"},
		{"a", []string{"a", "a2", "a3", "a4", "a5", "a6", "a7", "a8", "a9"}, "a10"},
	} {
		if got := name.Free(x.stem, x.used); got != x.want {
			t.Error(x, got)
		}
	}
	for _, stem := range []string{"n", long[:30], long, "a9"} {
		var l []string
		seen := map[string]int{}
		for range 120 {
			s := name.Free(stem, l)
			if s == "" {
				break
			}
			if !name.May(s) || seen[s] != 0 || !strings.HasPrefix(s, stem) {
				t.Fatal(stem, s)
			}
			seen[s]++
			l = append(l, s)
		}
		want := map[int]int{1: 120, 30: 99, 31: 9, 2: 120}[len(stem)]
		if len(l) != want {
			t.Error(stem, len(l), want)
		}
	}
}

func TestFreeLeavesUsed(t *testing.T) {
	used := []string{"b", "a", "a2"}
	name.Free("a", used)
	if !slices.Equal(used, []string{"b", "a", "a2"}) {
		t.Error(used)
	}
}
