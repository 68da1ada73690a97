package part

import (
	"errors"
	"math"
	"math/rand"
	"slices"
	"strconv"
	"strings"
	"testing"

	"deedbox/api"
	"deedbox/row"
)

const big = api.MaxNum

func rowOf(part string, key, val int) api.Row { return api.Row{Part: part, Key: key, Val: val} }

func wrongSpecs() map[string]error {
	return map[string]error{
		"": api.ErrText, " ": api.ErrText, "Part": api.ErrText, "parts": api.ErrText, "part ": api.ErrText, " part": api.ErrText, "part 5": api.ErrText, "part\n": api.ErrText,
		"bucket": api.ErrText, "trunc": api.ErrText, "bucket ": api.ErrText, "trunc ": api.ErrText, "Bucket 5": api.ErrText, "TRUNC 5": api.ErrText, "bucket5": api.ErrText, "buckets 5": api.ErrText, "trun 5": api.ErrText, "5": api.ErrText, "5 bucket": api.ErrText, " 5": api.ErrText,
		"bucket x": api.ErrText, "bucket 5x": api.ErrText, "bucket 0x5": api.ErrText, "bucket 1e2": api.ErrText, "bucket 1_0": api.ErrText, "bucket 5.0": api.ErrText, "bucket +5": api.ErrText, "trunc +0": api.ErrText, "trunc \u0665": api.ErrText, "trunc \xff": api.ErrText,
		"bucket 05": api.ErrText, "bucket 00": api.ErrText, "trunc 0001001": api.ErrText, "trunc 000000000": api.ErrText,
		"bucket -5": api.ErrText, "bucket -0": api.ErrText, "trunc -1": api.ErrText, "trunc -1001": api.ErrText, "trunc -12345678": api.ErrText, "trunc -": api.ErrText,
		"bucket  5": api.ErrText, "bucket 5 ": api.ErrText, " bucket 5": api.ErrText, "bucket\t5": api.ErrText, "bucket 5\n": api.ErrText, "trunc 5 5": api.ErrText,
		"trunc 1000000000": api.ErrText, "trunc 1234567890": api.ErrText, "bucket 12345678901": api.ErrText, "bucket 18446744073709551617": api.ErrText, "trunc " + strings.Repeat("9", 1<<16): api.ErrText,
		"bucket 0": api.ErrBound, "trunc 0": api.ErrBound, "bucket 1001": api.ErrBound, "trunc 1001": api.ErrBound, "trunc 123456789": api.ErrBound, "bucket 100000000": api.ErrBound, "bucket 999999999": api.ErrBound,
	}
}

// P20: specs. Their errors are bare, and come ahead of a row's.
func TestWrongSpecs(t *testing.T) {
	bad := rowOf("A", big+1, 0)
	for spec, want := range wrongSpecs() {
		if err := Check(spec); err != want {
			t.Errorf("Check(%.40q): %v, not %v", spec, err, want)
		}
		for _, r := range []api.Row{rowOf("eu", 5, 0), bad} {
			if s, err := Of(spec, r); s != "" || err != want {
				t.Errorf("Of(%.40q, %v): %q, %v, not %v", spec, r, s, err, want)
			}
		}
		for _, l := range [][]api.Row{nil, {rowOf("eu", 5, 0)}, {bad}} {
			if g, err := Split(spec, l); len(g) > 0 || err != want {
				t.Errorf("Split(%.40q, %v): %v, %v, not %v", spec, l, g, err, want)
			}
		}
	}
}

// P20: every N there is, and those beside.
func TestEveryN(t *testing.T) {
	if err := Check("part"); err != nil {
		t.Error(err)
	}
	for n := range 1200 {
		for _, kind := range []string{"bucket ", "trunc "} {
			err := Check(kind + strconv.Itoa(n))
			if right := 1 <= n && n <= 1000; right && err != nil || !right && err != api.ErrBound {
				t.Errorf("%s%d: %v", kind, n, err)
			}
		}
	}
}

// P20: a row's group.
func TestOf(t *testing.T) {
	for _, c := range []struct {
		spec string
		key  int
		want string
	}{
		{"part", 5, "eu"}, {"part", -big, "eu"},
		{"bucket 4", 5, "b1"}, {"bucket 4", 4, "b0"}, {"bucket 4", 3, "b3"}, {"bucket 4", 0, "b0"}, {"bucket 4", -1, "b3"}, {"bucket 4", -4, "b0"}, {"bucket 4", -5, "b3"},
		{"bucket 1", 77, "b0"}, {"bucket 1", -77, "b0"}, {"bucket 1000", 999, "b999"}, {"bucket 1000", 1000, "b0"}, {"bucket 1000", -1, "b999"}, {"bucket 1000", -999, "b1"},
		{"bucket 1000", big, "b824"}, {"bucket 1000", -big, "b176"}, {"bucket 3", big, "b1"}, {"bucket 3", -big, "b2"},
		{"trunc 10", 17, "t1"}, {"trunc 10", 10, "t1"}, {"trunc 10", 9, "t0"}, {"trunc 10", 3, "t0"}, {"trunc 10", 0, "t0"}, {"trunc 10", -1, "n1"}, {"trunc 10", -5, "n1"}, {"trunc 10", -10, "n1"}, {"trunc 10", -11, "n2"}, {"trunc 10", -20, "n2"}, {"trunc 10", -100, "n10"},
		{"trunc 1", 0, "t0"}, {"trunc 1", -1, "n1"}, {"trunc 1", big, "t1073741824"}, {"trunc 1", -big, "n1073741824"},
		{"trunc 1000", big, "t1073741"}, {"trunc 1000", -big, "n1073742"}, {"trunc 1000", -1000, "n1"}, {"trunc 1000", -1001, "n2"},
	} {
		for _, val := range []int{0, -3, big} {
			if s, err := Of(c.spec, rowOf("eu", c.key, val)); s != c.want || err != nil {
				t.Errorf("Of(%q) of key %d: %q, %v, not %q", c.spec, c.key, s, err, c.want)
			}
		}
	}
}

// P20: row.Check's errors, bare, whichever field the spec looks at.
func TestOfWrongRow(t *testing.T) {
	for _, spec := range []string{"part", "bucket 4", "trunc 10"} {
		for _, r := range []api.Row{{}, rowOf("A", 1, 1), rowOf("ninechars", 1, 1), rowOf("A", big+1, 0), rowOf("a", big+1, 0), rowOf("a", -big-1, 0), rowOf("a", 0, big+1), rowOf("a", math.MinInt, math.MaxInt), rowOf("a", 0, math.MinInt)} {
			if s, err := Of(spec, r); s != "" || err == nil || err != row.Check(r) {
				t.Errorf("Of(%q, %v): %q, %v, not %v", spec, r, s, err, row.Check(r))
			}
		}
	}
}

// P20: what a name says of its key, told the other way round.
func TestOfAllKeysNearby(t *testing.T) {
	for _, n := range []int{1, 2, 3, 7, 10, 999, 1000} {
		for key := -2500; key <= 2500; key++ {
			b, _ := Of("bucket "+strconv.Itoa(n), rowOf("a", key, 0))
			rest, err := strconv.Atoi(b[1:])
			if b[0] != 'b' || err != nil || rest < 0 || rest >= n || (key-rest)%n != 0 {
				t.Fatalf("key %d is in bucket %q of %d", key, b, n)
			}
			s, _ := Of("trunc "+strconv.Itoa(n), rowOf("a", key, 0))
			times, err := strconv.Atoi(s[1:])
			if (s[0] == 'n') != (key < 0) || (s[0] == 't') != (key >= 0) || err != nil || times < 0 {
				t.Fatalf("key %d is in %q of %d", key, s, n)
			}
			if key < 0 {
				times = -times
			}
			if key < times*n || key >= times*n+n {
				t.Fatalf("key %d is in %q of %d", key, s, n)
			}
		}
	}
}

func sameGroups(a, b []Group) bool {
	return slices.EqualFunc(a, b, func(x, y Group) bool { return x.Name == y.Name && slices.Equal(x.Rows, y.Rows) })
}

// P21: groups by names, rising by their bytes; rows as they stood.
func TestSplit(t *testing.T) {
	a, b, c, d := rowOf("us", 12, 0), rowOf("eu", 3, 0), rowOf("us", -3, 0), rowOf("eu", 3, 1)
	l := []api.Row{a, b, c, d}
	for spec, want := range map[string][]Group{
		"part":      {{"eu", []api.Row{b, d}}, {"us", []api.Row{a, c}}},
		"trunc 10":  {{"n1", []api.Row{c}}, {"t0", []api.Row{b, d}}, {"t1", []api.Row{a}}},
		"trunc 1":   {{"n3", []api.Row{c}}, {"t12", []api.Row{a}}, {"t3", []api.Row{b, d}}},
		"bucket 3":  {{"b0", []api.Row{a, b, c, d}}},
		"bucket 10": {{"b2", []api.Row{a}}, {"b3", []api.Row{b, d}}, {"b7", []api.Row{c}}},
		"bucket 13": {{"b10", []api.Row{c}}, {"b12", []api.Row{a}}, {"b3", []api.Row{b, d}}},
	} {
		if g, err := Split(spec, l); !sameGroups(g, want) || err != nil {
			t.Errorf("Split(%q): %v, %v, not %v", spec, g, err, want)
		}
	}
}

func TestSplitKeepsOrderAndTwins(t *testing.T) {
	l := []api.Row{rowOf("b", 9, 9), rowOf("a", 9, 9), rowOf("b", 1, 1), rowOf("b", 9, 9), rowOf("9", 0, 0), rowOf("b", 5, -5)}
	want := []Group{{"9", []api.Row{l[4]}}, {"a", []api.Row{l[1]}}, {"b", []api.Row{l[0], l[2], l[3], l[5]}}}
	if g, err := Split("part", l); !sameGroups(g, want) || err != nil {
		t.Errorf("%v, %v, not %v", g, err, want)
	}
}

func TestSplitOfNothing(t *testing.T) {
	for _, spec := range []string{"part", "bucket 1", "trunc 1000"} {
		for _, l := range [][]api.Row{nil, {}} {
			if g, err := Split(spec, l); len(g) > 0 || err != nil {
				t.Errorf("Split(%q, %v): %v, %v", spec, l, g, err)
			}
		}
	}
}

// P21: the first row that is not right, with its place.
func TestSplitWrongRow(t *testing.T) {
	good := rowOf("a", 1, 1)
	for _, spec := range []string{"part", "bucket 4", "trunc 10"} {
		for _, c := range []struct {
			l    []api.Row
			at   int
			want error
		}{
			{[]api.Row{{}}, 0, api.ErrName},
			{[]api.Row{rowOf("a", big+1, 0), {}}, 0, api.ErrBound},
			{[]api.Row{good, rowOf("A", big+1, 0), {}}, 1, api.ErrName},
			{[]api.Row{good, good, rowOf("a", 0, -big-1)}, 2, api.ErrBound},
			{[]api.Row{good, rowOf("a", math.MinInt, 0), good, rowOf("A", 0, 0)}, 1, api.ErrBound},
		} {
			g, err := Split(spec, c.l)
			var f *api.Fault
			if len(g) > 0 || !errors.As(err, &f) || f.At != c.at || f.Err != c.want {
				t.Errorf("Split(%q, %v): %v, %v, not %v at %d", spec, c.l, g, err, c.want, c.at)
			}
		}
	}
}

// P22: each row once, in the group that is its own; no group is empty, and names rise.
func TestSplitHasEachRowOnce(t *testing.T) {
	rnd := rand.New(rand.NewSource(1))
	for range 500 {
		l := make([]api.Row, rnd.Intn(60))
		for i := range l {
			l[i] = rowOf(string("abc019"[rnd.Intn(6)]), rnd.Intn(61)-30, rnd.Intn(3)-1)
		}
		spec := []string{"part", "bucket " + strconv.Itoa(1+rnd.Intn(20)), "trunc " + strconv.Itoa(1+rnd.Intn(20))}[rnd.Intn(3)]
		checkSplit(t, spec, l)
	}
}

func checkSplit(t *testing.T, spec string, l []api.Row) {
	t.Helper()
	groups, err := Split(spec, l)
	var all []api.Row
	for i, g := range groups {
		all = append(all, g.Rows...)
		own := slices.DeleteFunc(slices.Clone(l), func(r api.Row) bool {
			name, _ := Of(spec, r)
			return name != g.Name
		})
		if len(own) == 0 || !slices.Equal(own, g.Rows) || i > 0 && groups[i-1].Name >= g.Name {
			t.Errorf("%q of %v: group %v", spec, l, g)
		}
	}
	if err != nil || !row.Same(all, l) {
		t.Errorf("%q of %v: %v, %v", spec, l, groups, err)
	}
}

// P4, P3: a list is only lent, and ends where its length says; answers share no memory, with it or with each other.
func TestSplitMemory(t *testing.T) {
	whole := []api.Row{rowOf("a", 1, 0), rowOf("b", 2, 0), rowOf("a", 3, 0), rowOf("BEHIND", big+1, 0)}
	before := slices.Clone(whole)
	for _, spec := range []string{"part", "bucket 1", "trunc 1"} {
		g, err := Split(spec, whole[:3])
		if err != nil {
			t.Fatal(spec, err)
		}
		again, _ := Split(spec, whole[:3])
		for i := range g {
			g[i].Rows = append(g[i].Rows, rowOf("x", 0, 0))
			g[i].Rows[0].Val = 99
		}
		for i := range g {
			if g[i].Rows[0].Val != 99 || slices.ContainsFunc(g[i].Rows[1:len(g[i].Rows)-1], func(r api.Row) bool { return r.Val != 0 }) {
				t.Errorf("%q: what is written into one group shows in another: %v", spec, g)
			}
		}
		if third, _ := Split(spec, whole[:3]); !sameGroups(again, third) || !slices.Equal(whole, before) {
			t.Errorf("%q: what is written into an answer shows: %v, %v", spec, third, whole)
		}
	}
}

// P1: whatever a spec is, one of three answers, and those of Check and Of agree.
func FuzzSpec(f *testing.F) {
	f.Add("part", "eu", 5, 0)
	f.Add("bucket 4", "eu", -5, 0)
	f.Add("trunc 10", "", math.MinInt, 0)
	f.Fuzz(func(t *testing.T, spec, name string, key, val int) {
		r := rowOf(name, key, val)
		err := Check(spec)
		if err != nil && err != api.ErrText && err != api.ErrBound {
			t.Fatal(spec, err)
		}
		if err == nil {
			err = row.Check(r)
		}
		if s, e := Of(spec, r); e != err || (s == "") != (err != nil) {
			t.Fatal(spec, r, s, e)
		}
		if g, e := Split(spec, []api.Row{r}); !errors.Is(e, err) || (len(g) == 1) != (err == nil) {
			t.Fatal(spec, r, g, e)
		}
	})
}

// Who goes through the names may stop on the way.
func TestRisingStops(t *testing.T) {
	var names []string
	for name := range rising(map[string][]api.Row{"c": nil, "a": nil, "b": nil}) {
		names = append(names, name)
		if name == "b" {
			break
		}
	}
	if !slices.Equal(names, []string{"a", "b"}) {
		t.Error(names)
	}
}
