package row

import (
	"math"
	"math/rand"
	"slices"
	"strconv"
	"strings"
	"testing"

	"deedbox/api"
)

const big = api.MaxNum

func rowOf(part string, key, val int) api.Row { return api.Row{Part: part, Key: key, Val: val} }

// P10: names.
func TestName(t *testing.T) {
	for s, want := range map[string]bool{
		"a": true, "z": true, "0": true, "9": true, "eu": true, "a9": true, "9a": true, "eightcha": true, "00000000": true,
		"": false, "ninechars": false, "A": false, "aB": false, "a b": false, " a": false, "a ": false, "a-b": false, "a_b": false, "a\n": false, "a\x00": false,
		"é": false, "ä": false, "\u0661": false, "\xff": false, strings.Repeat("a", 1<<20): false,
	} {
		if Name(s) != want {
			t.Errorf("Name(%.20q) is not %v", s, want)
		}
	}
}

func TestNameOfEveryByte(t *testing.T) {
	for b := range 256 {
		want := strings.ContainsRune("abcdefghijklmnopqrstuvwxyz0123456789", rune(b))
		for _, s := range []string{string([]byte{byte(b)}), string([]byte{'a', byte(b)}), string([]byte{byte(b), '0', 'z'})} {
			if Name(s) != want {
				t.Errorf("Name(%q) is not %v", s, want)
			}
		}
	}
}

// A name's signs, in texts of other lengths.
func TestWord(t *testing.T) {
	for most := -1; most <= 13; most++ {
		for n := range 15 {
			if Word(strings.Repeat("a", n), most) != (1 <= n && n <= most) {
				t.Errorf("%d signs, of %d at the most", n, most)
			}
		}
	}
	if Word("nine-sign", 12) || Word("twelvesigns\n", 12) {
		t.Error("signs that are no name's")
	}
}

// P10: what is right, and which error comes first. Errors are bare: this chapter tells no places.
func TestCheck(t *testing.T) {
	for _, c := range []struct {
		r    api.Row
		want error
	}{
		{rowOf("eu", 1, 2), nil},
		{rowOf("a", 0, 0), nil},
		{rowOf("eightcha", big, -big), nil},
		{rowOf("eightcha", -big, big), nil},
		{rowOf("", 1, 2), api.ErrName},
		{rowOf("ninechars", 1, 2), api.ErrName},
		{rowOf("EU", 1, 2), api.ErrName},
		{rowOf("a", big+1, 0), api.ErrBound},
		{rowOf("a", -big-1, 0), api.ErrBound},
		{rowOf("a", 0, big+1), api.ErrBound},
		{rowOf("a", 0, -big-1), api.ErrBound},
		{rowOf("a", math.MinInt, 0), api.ErrBound},
		{rowOf("a", math.MaxInt, 0), api.ErrBound},
		{rowOf("a", 0, math.MinInt), api.ErrBound},
		{rowOf("a", 0, math.MaxInt), api.ErrBound},
		{rowOf("A", big+1, -big-1), api.ErrName},
	} {
		if err := Check(c.r); err != c.want {
			t.Errorf("Check(%v): %v, not %v", c.r, err, c.want)
		}
		if (Text(c.r) == "") != (c.want != nil) {
			t.Errorf("Text(%v) is %q", c.r, Text(c.r))
		}
	}
}

// P10: a row as text, and back.
func TestTextAndRead(t *testing.T) {
	for s, r := range map[string]api.Row{
		"eu 1 2":                           rowOf("eu", 1, 2),
		"a -5 0":                           rowOf("a", -5, 0),
		"0 0 -1":                           rowOf("0", 0, -1),
		"7 10 100":                         rowOf("7", 10, 100),
		"eightcha 1073741824 -1073741824":  rowOf("eightcha", big, -big),
		"eightcha -1073741824 1073741824":  rowOf("eightcha", -big, big),
		"eightcha -1000000000 -1073741823": rowOf("eightcha", -1000000000, -big+1),
	} {
		if got := Text(r); got != s {
			t.Errorf("Text(%v) is %q, not %q", r, got, s)
		}
		if got, err := Read(s); got != r || err != nil {
			t.Errorf("Read(%q): %v, %v", s, got, err)
		}
	}
}

// P10: wrong texts: ErrText ahead of ErrName ahead of ErrBound, and no row.
func TestReadErrors(t *testing.T) {
	for want, texts := range map[error][]string{
		api.ErrText: {
			"", " ", "  ", "   ", "eu", "eu 1", "eu 1 2 3", "eu 1 2 ", " eu 1 2", "eu  1 2", "eu 1  2", "eu\t1\t2", "eu 1\t2", "eu 1 2\n",
			"eu 1 ", "eu  2", "EU 1 x", "EU 1", " 1 x", "eu 99999999999 x", strings.Repeat(" ", 1<<16), "eu 1 " + strings.Repeat("9", 1<<16),
		},
		api.ErrName:  {"EU 1 2", " 1 2", "ninechars 1 2", "e-u 1 2", "é 1 2", "eu\t 1 2", "EU 1073741825 2", " 1 -1073741825"},
		api.ErrBound: {"eu 1073741825 2", "eu -1073741825 2", "eu 1 1073741825", "eu 1 -1073741825", "eu 99999999999 2", "eu 1 -9999999999"},
	} {
		for _, s := range texts {
			if r, err := Read(s); r != (api.Row{}) || err != want {
				t.Errorf("Read(%.40q): %v, %v, not %v", s, r, err, want)
			}
		}
	}
}

// P10: a number that is none, in either place.
func TestNumbers(t *testing.T) {
	for _, s := range []string{"-", "--1", "-0", "00", "01", "-01", "+1", "+0", "x", "1x", "x1", "1-", "1.0", "1e3", "0x1", "1_0", "\u0661", "１", "1\n", "1\x00", "000000000001", "100000000000", "-10000000000", "-99999999999"} {
		if n, ok := Number(s); n != 0 || ok {
			t.Errorf("Number(%q): %d, %v", s, n, ok)
		}
		for _, line := range []string{"eu " + s + " 2", "eu 1 " + s} {
			if r, err := Read(line); r != (api.Row{}) || err != api.ErrText {
				t.Errorf("Read(%q): %v, %v", line, r, err)
			}
		}
	}
	for _, n := range []int{0, 1, -1, 9, 10, -10, big, -big, big + 1, 99999999999, -9999999999} {
		if got, ok := Number(strconv.Itoa(n)); got != n || !ok {
			t.Errorf("Number of %d: %d, %v", n, got, ok)
		}
	}
}

// All words, or none.
func TestNumbersOfWords(t *testing.T) {
	if l, ok := Numbers([]string{"7", "-1073741825", "0"}); !slices.Equal(l, []int{7, -big - 1, 0}) || !ok {
		t.Error(l, ok)
	}
	if l, ok := Numbers(nil); len(l) > 0 || !ok {
		t.Error(l, ok)
	}
	for _, words := range [][]string{{"x"}, {""}, {"x", "1"}, {"1", "x"}, {"1", "02", "3"}} {
		if l, ok := Numbers(words); len(l) > 0 || ok {
			t.Error(words, l, ok)
		}
	}
}

// What is read is what would be written, whatever the text.
func FuzzRead(f *testing.F) {
	for _, s := range []string{"", "eu 1 2", "eu -0 2", "EU 1 2", "eu 1073741825 2", "a b c d", "eu 1 2\n"} {
		f.Add(s)
	}
	f.Fuzz(func(t *testing.T, s string) {
		r, err := Read(s)
		if err == nil && (Text(r) != s || Check(r) != nil) {
			t.Errorf("Read(%q) is %v", s, r)
		}
		if err != nil && (r != api.Row{} || err != api.ErrText && err != api.ErrName && err != api.ErrBound) {
			t.Errorf("Read(%q): %v, %v", s, r, err)
		}
	})
}

// P11: rising, by one thing behind the other.
func TestLess(t *testing.T) {
	rising := []api.Row{
		rowOf("", 5, 5), rowOf("0", 9, 9), rowOf("Z", 9, 9),
		rowOf("a", math.MinInt, 9), rowOf("a", -10, 9), rowOf("a", -9, 9),
		rowOf("a", 2, math.MinInt), rowOf("a", 2, -1), rowOf("a", 2, 0), rowOf("a", 2, math.MaxInt),
		rowOf("a", 10, -9), rowOf("a", math.MaxInt, math.MinInt),
		rowOf("a0", 0, 0), rowOf("aa", -1, -1), rowOf("b", -9, -9), rowOf("b", -9, -8), rowOf("\xff", -9, -9),
	}
	for i, a := range rising {
		for j, b := range rising {
			if Less(a, b) != (i < j) {
				t.Errorf("Less(%v, %v) is not %v", a, b, i < j)
			}
		}
	}
}

// P11: each order of a list is sorted to the same.
func TestSort(t *testing.T) {
	want := []api.Row{rowOf("a", -7, 9), rowOf("a", 2, -5), rowOf("a", 2, 5), rowOf("b", 1, 1), rowOf("b", 1, 1)}
	for _, l := range ordersOf(want) {
		was := slices.Clone(l)
		if got := Sort(l); !slices.Equal(got, want) {
			t.Errorf("Sort(%v) is %v", l, got)
		}
		if !slices.Equal(l, was) {
			t.Fatalf("%v became %v", was, l)
		}
	}
	if len(Sort(nil)) != 0 || len(Sort([]api.Row{})) != 0 {
		t.Error("none became some")
	}
}

func ordersOf(l []api.Row) [][]api.Row {
	if len(l) == 0 {
		return [][]api.Row{nil}
	}
	var out [][]api.Row
	for i := range l {
		rest := slices.Concat(l[:i], l[i+1:])
		for _, o := range ordersOf(rest) {
			out = append(out, append([]api.Row{l[i]}, o...))
		}
	}
	return out
}

// P11: in any order, but as often.
func TestSame(t *testing.T) {
	a, b, c := rowOf("a", 1, 1), rowOf("a", 1, 2), rowOf("b", 1, 1)
	for _, x := range []struct {
		a, b []api.Row
		want bool
	}{
		{nil, nil, true},
		{nil, []api.Row{}, true},
		{nil, []api.Row{a}, false},
		{[]api.Row{a}, []api.Row{a}, true},
		{[]api.Row{a}, []api.Row{b}, false},
		{[]api.Row{a}, []api.Row{c}, false},
		{[]api.Row{a, b, c}, []api.Row{c, b, a}, true},
		{[]api.Row{a, b, c}, []api.Row{a, b}, false},
		{[]api.Row{a, a, b}, []api.Row{a, b, b}, false},
		{[]api.Row{a, a, b}, []api.Row{a, b, a}, true},
		{[]api.Row{a, a}, []api.Row{a}, false},
	} {
		if Same(x.a, x.b) != x.want || Same(x.b, x.a) != x.want {
			t.Errorf("Same(%v, %v) is not %v", x.a, x.b, x.want)
		}
	}
	l, m := []api.Row{c, b, a}, []api.Row{b, a, c}
	if Same(l, m); !slices.Equal(l, []api.Row{c, b, a}) || !slices.Equal(m, []api.Row{b, a, c}) {
		t.Error("what was handed over has changed")
	}
}

// P11: without some keys, in the list's order.
func TestDrop(t *testing.T) {
	l := []api.Row{rowOf("b", 1, 1), rowOf("a", 2, 5), rowOf("a", 2, -5), rowOf("a", -7, 9), rowOf("b", 1, 1)}
	for _, c := range []struct {
		keys []int
		want []api.Row
	}{
		{nil, l},
		{[]int{}, l},
		{[]int{0, 3, 5, -5, 9, math.MinInt, math.MaxInt}, l},
		{[]int{2}, []api.Row{l[0], l[3], l[4]}},
		{[]int{2, 99, 2}, []api.Row{l[0], l[3], l[4]}},
		{[]int{99, 1, -7}, []api.Row{l[1], l[2]}},
		{[]int{2, 1, -7}, nil},
	} {
		keys := slices.Clone(c.keys)
		if got := Drop(l, c.keys); !slices.Equal(got, c.want) {
			t.Errorf("Drop of %v is %v", c.keys, got)
		}
		if !slices.Equal(keys, c.keys) {
			t.Errorf("keys %v became %v", keys, c.keys)
		}
	}
	if len(Drop(nil, []int{1})) != 0 || len(Drop(nil, nil)) != 0 {
		t.Error("none became some")
	}
}

// P11: from lo to hi, both of them too.
func TestWithin(t *testing.T) {
	l := []api.Row{rowOf("b", 1, 1), rowOf("a", 2, 5), rowOf("a", 2, -5), rowOf("a", -7, 9), rowOf("b", 1, 1)}
	for _, c := range []struct {
		lo, hi int
		want   []api.Row
	}{
		{math.MinInt, math.MaxInt, l},
		{-7, 2, l},
		{-6, 1, []api.Row{l[0], l[4]}},
		{1, 2, []api.Row{l[0], l[1], l[2], l[4]}},
		{2, 2, []api.Row{l[1], l[2]}},
		{math.MinInt, -7, []api.Row{l[3]}},
		{math.MinInt, -8, nil},
		{3, math.MaxInt, nil},
		{2, 1, nil},
		{math.MaxInt, math.MinInt, nil},
	} {
		if got := Within(l, c.lo, c.hi); !slices.Equal(got, c.want) {
			t.Errorf("Within %d and %d: %v", c.lo, c.hi, got)
		}
	}
	if len(Within(nil, 0, 1)) != 0 {
		t.Error("none became some")
	}
}

// P3, P4: a list is only read, up to its length; an answer is new memory.
func TestMemory(t *testing.T) {
	for name, call := range map[string]func([]api.Row) []api.Row{
		"Sort":   Sort,
		"Drop":   func(l []api.Row) []api.Row { return Drop(l, []int{99}) },
		"all":    func(l []api.Row) []api.Row { return Drop(l, nil) },
		"Within": func(l []api.Row) []api.Row { return Within(l, 1, 3) },
	} {
		for n := range 4 {
			whole := []api.Row{rowOf("c", 3, 3), rowOf("b", 2, 2), rowOf("a", 1, 1), rowOf("d", 2, 4)}
			was := slices.Clone(whole)
			got := call(whole[:n])
			if len(got) != n {
				t.Fatalf("%s: %v", name, got)
			}
			got = append(got, rowOf("x", 9, 9))
			for i := range got {
				got[i].Key = 77
			}
			if !slices.Equal(whole, was) {
				t.Errorf("%s of %d: %v became %v", name, n, was, whole)
			}
		}
	}
}

// P12: what is sorted is the same, in order.
func TestSortedIsTheSame(t *testing.T) {
	r := rand.New(rand.NewSource(12))
	for range 300 {
		l := make([]api.Row, r.Intn(60))
		for i := range l {
			l[i] = rowOf([]string{"", "a", "b", "B", "ab"}[r.Intn(5)], r.Intn(7)-3, r.Intn(5)-2)
		}
		s := Sort(l)
		if !Same(l, s) || !asOften(l, s) {
			t.Fatalf("%v is not the same as %v", s, l)
		}
		for i := 1; i < len(s); i++ {
			if Less(s[i], s[i-1]) {
				t.Fatalf("%v is behind %v", s[i], s[i-1])
			}
		}
		if !slices.Equal(Sort(s), s) {
			t.Fatalf("%v is sorted to another one", s)
		}
	}
}

// asOften counts, so that Same is not its own witness.
func asOften(a, b []api.Row) bool {
	n := map[api.Row]int{}
	for _, r := range a {
		n[r]++
	}
	for _, r := range b {
		n[r]--
	}
	for _, c := range n {
		if c != 0 {
			return false
		}
	}
	return true
}
