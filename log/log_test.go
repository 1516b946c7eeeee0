package log_test

import (
	"encoding/hex"
	"slices"
	"strconv"
	"strings"
	"testing"

	"bonsai/api"
	"bonsai/log"
	"bonsai/sample"
)

func step(pass, way uint8, rule, at int, path ...int) log.Item {
	return log.Item{Step: api.Step{Pass: pass, Way: way, Rule: rule, At: at, Path: path}}
}

func mark() log.Item { return log.Item{Mark: true} }

func unhex(t *testing.T, s string) string {
	t.Helper()
	b, err := hex.DecodeString(strings.ReplaceAll(s, " ", ""))
	if err != nil {
		t.Fatal(err)
	}
	return string(b)
}

func TestExamples(t *testing.T) {
	if s, e := log.Encode(nil); s != "\x00" || e != api.OK {
		t.Errorf("%q %v", s, e)
	}
	l := []log.Item{mark(), step(2, 1, 300, 0, 1, 0)}
	if s, e := log.Encode(l); s != unhex(t, "02 00 02 01 ac 02 02 01 00 00") || e != api.OK {
		t.Errorf("%q %v", s, e)
	}
	if log.Show(l[1]) != "2.1 300/1/0 @0" || log.Show(l[0]) != "mark" {
		t.Error(log.Show(l[1]))
	}
	l = []log.Item{mark(), step(1, 1, 0, 0), mark(), step(7, 1, 1, 0)}
	if s, e := log.Encode(l); s != unhex(t, "04 00 01 01 00 00 00 00 07 01 01 00 00") || e != api.OK {
		t.Errorf("%q %v", s, e)
	}
	if s, _ := log.Encode([]log.Item{step(255, 255, log.MaxNumber, log.MaxNumber, 127, 128, 16383, 16384)}); s != unhex(t, "01 ff01 ff01 ffffffff07 04 7f 8001 ff7f 808001 ffffffff07") {
		t.Errorf("%x", s)
	}
}

func TestDecodeErrors(t *testing.T) {
	for s, want := range map[string]api.Errno{
		"80 00": api.ErrForm, "01": api.ErrShort, "00 00": api.ErrLong, "": api.ErrShort, "80": api.ErrShort, "00": api.OK, "01 00": api.OK, "01 00 00": api.ErrLong, "02 00": api.ErrShort, "80 80 00": api.ErrForm, "81 00": api.ErrForm, "80 80 80 80": api.ErrShort, "80 80 80 80 80": api.ErrForm, "80 80 80 80 00": api.ErrForm, "ff ff ff ff 08": api.ErrForm, "ff ff ff ff 07": api.ErrTooLarge, "ff ff ff ff 87": api.ErrForm,
		"81 20": api.ErrTooLarge, "81 20 00 00": api.ErrTooLarge, "80 20": api.ErrShort, "81": api.ErrShort, "ff ff 7f": api.ErrTooLarge,
		"01 01": api.ErrShort, "01 80 02": api.ErrForm, "01 ff 01": api.ErrShort, "01 80 82": api.ErrForm, "01 ff ff": api.ErrForm, "01 80 00": api.ErrForm, "01 ff": api.ErrShort, "01 01 80 02": api.ErrForm, "01 01 ff 01": api.ErrShort, "01 01 00": api.ErrShort,
		"01 01 01 ff ff ff ff 07": api.ErrShort, "01 01 01 ff ff ff ff 08": api.ErrForm, "01 01 01 80 80 80 80 08": api.ErrForm, "01 01 01 80 80 80 80 80": api.ErrForm, "01 01 01 00 21": api.ErrForm, "01 01 01 00 20": api.ErrShort, "01 01 01 00 a1": api.ErrForm, "01 01 01 00 a0": api.ErrShort, "01 01 01 00 a0 00": api.ErrForm, "01 01 01 00 80 01": api.ErrForm,
		"01 01 01 00 00": api.ErrShort, "01 01 01 00 00 00": api.OK, "01 01 01 00 01 05": api.ErrShort, "01 01 01 00 01 ff ff ff ff 08": api.ErrForm, "01 01 01 00 01 05 00": api.OK, "01 01 01 00 01 05 ff ff ff ff 08": api.ErrForm, "01 01 01 00 01 05 00 00": api.ErrLong, "02 01 01 00 00 00 80 00": api.ErrForm, "02 01 01 00 00 00 00 09": api.ErrLong,
	} {
		l, e := log.Decode(unhex(t, s))
		if e != want || e != api.OK && len(l) != 0 {
			t.Errorf("%s: %v %v", s, l, e)
		}
		if back, f := log.Encode(l); e == api.OK && (f != api.OK || back != unhex(t, s)) {
			t.Errorf("%s: back %x", s, back)
		}
	}
}

func TestMay(t *testing.T) {
	long := make([]int, 33)
	for i, row := range []struct {
		x    log.Item
		want string
	}{
		{mark(), "mark"}, {log.Item{Mark: true, Step: api.Step{Path: []int{}}}, "mark"}, {log.Item{}, ""}, {log.Item{Mark: true, Step: api.Step{Pass: 1}}, ""}, {log.Item{Mark: true, Step: api.Step{Way: 1}}, ""}, {log.Item{Mark: true, Step: api.Step{Rule: 1}}, ""}, {log.Item{Mark: true, Step: api.Step{At: 1}}, ""}, {log.Item{Mark: true, Step: api.Step{Path: []int{0}}}, ""},
		{step(0, 1, 0, 0), ""}, {step(1, 0, 0, 0), "1.0 0 @0"}, {step(255, 255, 0, 0), "255.255 0 @0"}, {step(1, 1, -1, 0), ""}, {step(1, 1, log.MaxNumber, 0), "1.1 2147483647 @0"}, {step(1, 1, log.MaxNumber+1, 0), ""}, {step(1, 1, 0, -1), ""}, {step(1, 1, 0, log.MaxNumber), "1.1 0 @2147483647"}, {step(1, 1, 0, log.MaxNumber+1), ""},
		{step(1, 1, 0, 0, -1), ""}, {step(1, 1, 0, 0, 5, log.MaxNumber), "1.1 0/5/2147483647 @0"}, {step(1, 1, 0, 0, 5, log.MaxNumber+1), ""}, {step(1, 1, 0, 0, long[:32]...), "1.1 0" + strings.Repeat("/0", 32) + " @0"}, {step(1, 1, 0, 0, long...), ""}, {step(1, 1, -1<<63, 0), ""},
	} {
		if got := log.Show(row.x); got != row.want || log.May(row.x) != (row.want != "") {
			t.Error(i, got)
		}
		s, e := log.Encode([]log.Item{mark(), row.x})
		if (e == api.OK) != (row.want != "") || e != api.OK && (e != api.ErrForm || s != "") {
			t.Error(i, s, e)
		}
		if back, e := log.Read(row.want); row.want != "" && (e != api.OK || !log.Same([]log.Item{back}, []log.Item{row.x})) {
			t.Error(i, back, e)
		}
	}
}

func TestReadErrors(t *testing.T) {
	for _, s := range []string{"", "Mark", "mark ", " mark", "mark\n", "1.1 0 @0 ", " 1.1 0 @0", "1.1 0 @0\n", "1.1  0 @0", "1.1 0  @0", "1.1 0 @ 0", "1.1 0 @", "1.1 0", "1.1 @0", "1.1", "1 0 @0", "1. 0 @0", ".1 0 @0", "0.1 0 @0", "256.1 0 @0", "257.1 0 @0", "1.256 0 @0", "1.257 0 @0", "01.1 0 @0", "1.01 0 @0", "1.1 00 @0", "1.1 0 @00", "1.1 0/00 @0", "1.1 0/ @0", "1.1 /0 @0", "1.1 0//0 @0", "1.1 0/-1 @0", "1.1 -1 @0", "1.1 +1 @0", "1.1 0 @-1", "1.1 -0 @0", "1.1 0/a @0", "1.1 2147483648 @0", "1.1 0 @2147483648", "1.1 0/2147483648 @0", "1.1 99999999999999999999 @0", "1.1.1 0 @0", "1.1 0 @0 @0", "1.1 0" + strings.Repeat("/0", 33) + " @0", "1.1 0" + strings.Repeat("/0", 30000) + " @0", "1_0.1 0 @0", "1.1 0x1 @0"} {
		if x, e := log.Read(s); e != api.ErrForm || !log.Same([]log.Item{x}, []log.Item{{}}) {
			t.Errorf("%.40q: %v %v", s, x, e)
		}
	}
}

func some(s *sample.Source) log.Item {
	if s.OneIn(3) {
		return mark()
	}
	n := func() int { return int(s.Next() >> (33 + s.Below(31))) }
	x := step(1+uint8(s.Below(255)), uint8(s.Next()), n(), n())
	for range s.Below(5) {
		x.Step.Path = append(x.Step.Path, n())
	}
	return x
}

func logs(s *sample.Source, most int) []log.Item {
	var l []log.Item
	for range s.Below(most) {
		l = append(l, some(s))
	}
	return l
}

func TestThereAndBack(t *testing.T) {
	s := sample.New(271)
	var all []string
	for range 3000 {
		l := logs(s, 6)
		bytes, e := log.Encode(l)
		back, f := log.Decode(bytes)
		if e != api.OK || f != api.OK || !log.Same(l, back) || !log.Same(back, l) {
			t.Fatal(l, back, e, f)
		}
		for i := range bytes {
			if l, e := log.Decode(bytes[:i]); e != api.ErrShort || len(l) != 0 {
				t.Fatalf("%x: %v", bytes[:i], e)
			}
		}
		if l, e := log.Decode(bytes + "\x00"); e != api.ErrLong || len(l) != 0 {
			t.Fatal(e)
		}
		broken := []byte(bytes)
		broken[s.Below(len(broken))] = byte(s.Next())
		if l, e := log.Decode(string(broken)); e == api.OK {
			if again, f := log.Encode(l); f != api.OK || again != string(broken) {
				t.Fatalf("%x: %x", broken, again)
			}
		}
		for _, x := range l {
			line := log.Show(x)
			if y, e := log.Read(line); e != api.OK || !log.Same([]log.Item{x}, []log.Item{y}) {
				t.Fatal(line, e)
			}
			if cut := line[:s.Below(len(line))]; cut != "" {
				if y, e := log.Read(cut); e == api.OK && log.Show(y) != cut {
					t.Fatal(cut)
				}
			}
			if !x.Mark {
				want := strconv.Itoa(int(x.Step.Pass)) + "." + strconv.Itoa(int(x.Step.Way)) + " " + strconv.Itoa(x.Step.Rule)
				for _, n := range x.Step.Path {
					want += "/" + strconv.Itoa(n)
				}
				if line != want+" @"+strconv.Itoa(x.Step.At) {
					t.Fatal(line)
				}
			}
		}
		all = append(all, bytes)
	}
	slices.Sort(all)
	for i := 1; i < len(all); i++ {
		if all[i] != all[i-1] && strings.HasPrefix(all[i], all[i-1]) {
			t.Fatal("one begins another one")
		}
	}
}

func TestMaxItems(t *testing.T) {
	l := make([]log.Item, 4097)
	for i := range l {
		l[i] = mark()
	}
	bytes, e := log.Encode(l[:4096])
	if back, f := log.Decode(bytes); e != api.OK || f != api.OK || len(back) != 4096 {
		t.Error(e, f)
	}
	if s, e := log.Encode(l); e != api.ErrTooLarge || s != "" {
		t.Error(e)
	}
	l[0] = log.Item{}
	if s, e := log.Encode(l); e != api.ErrTooLarge || s != "" {
		t.Error(e)
	}
}

func equal(a, b api.Step) bool {
	return a.Pass == b.Pass && a.Way == b.Way && a.Rule == b.Rule && a.At == b.At && slices.Equal(a.Path, b.Path)
}

func TestSegments(t *testing.T) {
	s := sample.New(272)
	for range 2000 {
		l := logs(s, 9)
		if len(l) > 0 && s.OneIn(5) {
			l[s.Below(len(l))] = log.Item{Step: api.Step{Rule: -7}}
		}
		var steps []api.Step
		marks := 0
		for i, x := range l {
			if x.Mark || i == 0 {
				marks++
			}
			if !x.Mark {
				steps = append(steps, x.Step)
			}
		}
		got, segments := log.Steps(l), log.Segments(l)
		if !slices.EqualFunc(got, steps, equal) || len(segments) != marks || !slices.EqualFunc(slices.Concat(segments...), steps, equal) {
			t.Fatal(l, got, segments)
		}
		k := -1
		var want [][]api.Step
		for i, x := range l {
			if x.Mark || i == 0 {
				want = append(want, nil)
				k++
			}
			if !x.Mark {
				want[k] = append(want[k], x.Step)
			}
		}
		for i := range want {
			if !slices.EqualFunc(want[i], segments[i], equal) {
				t.Fatal("segment", i)
			}
		}
		for _, x := range append(got, slices.Concat(segments...)...) {
			for i := range x.Path {
				x.Path[i] = -5
			}
		}
		for _, x := range l {
			if slices.Contains(x.Step.Path, -5) {
				t.Fatal("memory is shared")
			}
		}
	}
	if len(log.Segments(nil)) != 0 || len(log.Steps(nil)) != 0 {
		t.Error("of none")
	}
}

func TestSame(t *testing.T) {
	a := []log.Item{mark(), step(1, 2, 3, 4, 5)}
	for i, b := range [][]log.Item{{mark()}, {a[1], mark()}, {mark(), step(2, 2, 3, 4, 5)}, {mark(), step(1, 1, 3, 4, 5)}, {mark(), step(1, 2, 2, 4, 5)}, {mark(), step(1, 2, 3, 3, 5)}, {mark(), step(1, 2, 3, 4)}, {mark(), step(1, 2, 3, 4, 6)}, {mark(), {Mark: true, Step: a[1].Step}}, {{}, a[1]}} {
		if log.Same(a, b) || log.Same(b, a) || !log.Same(b, b) {
			t.Error(i)
		}
	}
	if !log.Same(nil, []log.Item{}) {
		t.Error("of none")
	}
}

func TestMaxNumber(t *testing.T) {
	if log.MaxNumber != 2147483647 {
		t.Error(log.MaxNumber)
	}
}
