package meta

import (
	"errors"
	"fmt"
	"math"
	"math/rand"
	"reflect"
	"slices"
	"strings"
	"testing"

	"deedbox/api"
)

const big = api.MaxNum

// long has n IDs: 2, 4 ..
func long(n int) []int {
	var ids []int
	for i := range n {
		ids = append(ids, 2*i+2)
	}
	return ids
}

// textOf IDs that need not be right.
func textOf(ids []int) string {
	s := "meta"
	for _, id := range ids {
		s += fmt.Sprint(" ", id)
	}
	return s + "\n"
}

// isFault: the place is told, and the error beneath it is bare; below 0: no place is told.
func isFault(err error, at int, want error) bool {
	if at < 0 {
		return err == want
	}
	f, ok := err.(*api.Fault)
	return ok && f.At == at && f.Err == want
}

// checkWrong: every call that checks IDs tells the same of them, and nothing else, whatever else it is handed.
func checkWrong(t *testing.T, ids []int, at int, want error) {
	t.Helper()
	if err := Check(ids); !isFault(err, at, want) {
		t.Errorf("Check(%.80v): %#v", ids, err)
	}
	if s, err := Text(ids); s != "" || !isFault(err, at, want) {
		t.Errorf("Text(%.80v): %q, %#v", ids, s, err)
	}
	for _, id := range []int{math.MinInt, -1, 0, 1, Now(ids), Now(ids) + 1, big, big + 1, math.MaxInt} {
		if got, err := Push(ids, id); len(got) > 0 || !isFault(err, at, want) {
			t.Errorf("Push(%.80v, %d): %v, %#v", ids, id, got, err)
		}
	}
	for _, some := range [][]int{nil, {}, {0}, {1}, ids} {
		if got, err := Keep(ids, some); len(got) > 0 || !isFault(err, at, want) {
			t.Errorf("Keep(%.80v, %.80v): %v, %#v", ids, some, got, err)
		}
	}
}

// checkUnread: a text that is none is told so, and no IDs come of it.
func checkUnread(t *testing.T, s string, at int, want error) {
	t.Helper()
	if ids, err := Read(s); len(ids) > 0 || !isFault(err, at, want) {
		t.Errorf("Read(%.80q): %v, %#v", s, ids, err)
	}
}

// rightIDs by their texts.
func rightIDs() map[string][]int {
	return map[string][]int{
		"meta 1\n":                       {1},
		"meta 2\n":                       {2},
		"meta 1073741824\n":              {big},
		"meta 1 2\n":                     {1, 2},
		"meta 1 1073741824\n":            {1, big},
		"meta 1073741823 1073741824\n":   {big - 1, big},
		"meta 9 10 11\n":                 {9, 10, 11},
		"meta 2 7 100 1000 1073741824\n": {2, 7, 100, 1000, big},
		"meta 1 2 3 4 5 6 7 8 9 10\n":    {1, 2, 3, 4, 5, 6, 7, 8, 9, 10},
	}
}

// P80, P82: what is right is written and read to the byte.
func TestRightIDs(t *testing.T) {
	for s, ids := range rightIDs() {
		if err := Check(ids); err != nil {
			t.Errorf("Check(%v): %v", ids, err)
		}
		if got, err := Text(ids); got != s || err != nil {
			t.Errorf("Text(%v): %q, %v", ids, got, err)
		}
		if got, err := Read(s); !slices.Equal(got, ids) || err != nil {
			t.Errorf("Read(%q): %v, %v", s, got, err)
		}
	}
}

// P3, P80, P81: none, be it a nil list or an empty one.
func TestNone(t *testing.T) {
	for _, ids := range [][]int{nil, {}, long(3)[:0]} {
		checkWrong(t, ids, -1, api.ErrNone)
		if now := Now(ids); now != 0 {
			t.Error(now)
		}
	}
	checkUnread(t, "meta\n", -1, api.ErrNone)
}

// P80, P81: as many as there may be, and one more: ErrFull, ahead of what is wrong in them, without a place.
func TestMost(t *testing.T) {
	ids := long(api.MaxSnaps)
	s, err := Text(ids)
	if s != textOf(ids) || err != nil || Check(ids) != nil {
		t.Fatal(s, err)
	}
	if got, err := Read(s); !slices.Equal(got, ids) || err != nil {
		t.Error(got, err)
	}
	if got, err := Push(ids[:api.MaxSnaps-1], ids[api.MaxSnaps-1]); !slices.Equal(got, ids) || err != nil {
		t.Error(got, err)
	}
	if got, err := Keep(ids, ids); !slices.Equal(got, ids) || err != nil {
		t.Error(got, err)
	}
	for _, id := range []int{Now(ids) + 1, big, Now(ids), 1, 0, -1, big + 1, math.MinInt, math.MaxInt} {
		if got, err := Push(ids, id); len(got) > 0 || err != api.ErrFull {
			t.Errorf("Push(.., %d): %v, %#v", id, got, err)
		}
	}
	for _, wrong := range [][]int{long(api.MaxSnaps + 1), make([]int, api.MaxSnaps+1), append([]int{0}, ids...), append(slices.Clone(ids), 1), long(1000)} {
		checkWrong(t, wrong, -1, api.ErrFull)
		checkUnread(t, textOf(wrong), -1, api.ErrFull)
		checkUnread(t, strings.TrimSuffix(textOf(wrong), "\n"), -1, api.ErrText)
		checkUnread(t, strings.Replace(textOf(wrong), "\n", " x\n", 1), -1, api.ErrText)
	}
	checkWrong(t, make([]int, api.MaxSnaps), 0, api.ErrBound)
	checkUnread(t, textOf(make([]int, api.MaxSnaps)), 0, api.ErrBound)
}

// P80, P81: the first ID that is not right, with its place; of one ID, its bounds ahead of the order.
func TestWrongIDs(t *testing.T) {
	for _, c := range []struct {
		ids  []int
		at   int
		want error
	}{
		{[]int{0}, 0, api.ErrBound},
		{[]int{-1}, 0, api.ErrBound},
		{[]int{-big}, 0, api.ErrBound},
		{[]int{big + 1}, 0, api.ErrBound},
		{[]int{0, 0}, 0, api.ErrBound},
		{[]int{0, 1, 2}, 0, api.ErrBound},
		{[]int{1, 0}, 1, api.ErrBound},
		{[]int{1, -5}, 1, api.ErrBound},
		{[]int{1, big + 1}, 1, api.ErrBound},
		{[]int{1, 2, big + 1, 2}, 2, api.ErrBound},
		{[]int{big, big + 1}, 1, api.ErrBound},
		{[]int{big + 1, 1, 1}, 0, api.ErrBound},
		{[]int{1, 1}, 1, api.ErrOrder},
		{[]int{2, 1}, 1, api.ErrOrder},
		{[]int{10, 9}, 1, api.ErrOrder},
		{[]int{big, big}, 1, api.ErrOrder},
		{[]int{big, 1}, 1, api.ErrOrder},
		{[]int{1, 3, 2}, 2, api.ErrOrder},
		{[]int{1, 3, 1, 4}, 2, api.ErrOrder},
		{[]int{1, 3, 3, 3}, 2, api.ErrOrder},
		{[]int{3, 2, 0}, 1, api.ErrOrder},
		{[]int{3, 3, big + 1}, 1, api.ErrOrder},
		{append(long(api.MaxSnaps-1), 2*api.MaxSnaps-2), api.MaxSnaps - 1, api.ErrOrder},
		{append(long(api.MaxSnaps-1), 1), api.MaxSnaps - 1, api.ErrOrder},
		{append(long(api.MaxSnaps-1), 0), api.MaxSnaps - 1, api.ErrBound},
	} {
		checkWrong(t, c.ids, c.at, c.want)
		checkUnread(t, textOf(c.ids), c.at, c.want)
	}
	for _, id := range []int{math.MinInt, math.MaxInt, 1 << 31, -1 << 31, 1<<32 + 1} {
		checkWrong(t, []int{id}, 0, api.ErrBound)
		checkWrong(t, []int{7, id, 8}, 1, api.ErrBound)
	}
}

// P80: numbers as a row's: eleven signs are a number, out of bounds; twelve are none.
func TestLongNumbers(t *testing.T) {
	checkUnread(t, "meta 99999999999\n", 0, api.ErrBound)
	checkUnread(t, "meta -9999999999\n", 0, api.ErrBound)
	checkUnread(t, "meta 1 99999999999 1\n", 1, api.ErrBound)
	checkUnread(t, "meta 100000000000\n", -1, api.ErrText)
	checkUnread(t, "meta -10000000000\n", -1, api.ErrText)
	checkUnread(t, "meta 1 100000000000\n", -1, api.ErrText)
	checkUnread(t, "meta 18446744073709551617\n", -1, api.ErrText)
	checkUnread(t, "meta "+strings.Repeat("1", 1<<16)+"\n", -1, api.ErrText)
}

// P80: texts that are none, ahead of what is wrong with their numbers.
func TestWrongTexts(t *testing.T) {
	for _, s := range []string{
		"", " ", "\n", "\n\n", " \n", "x", "x\n", "m\n", "met\n", "meta", "meta ", "meta \n", "meta  \n", " meta\n", "metas\n", "META\n", "Meta 1\n", "META 1\n", "metas 1\n", "met 1\n", "snap 1\n", "1\n", "1 meta\n", " 1\n", "meta1\n", "meta1 2\n",
		"meta 1", "meta 1 ", "meta 1 \n", "meta  1\n", " meta 1\n", "meta 1  2\n", "meta 1 2 \n", "meta\t1\n", "meta 1\t2\n", "meta 1\t\n", "meta,1\n", "meta 1,2\n", "meta 1\r\n", "meta 1\r", "meta 1\v\n", "meta 1\x00\n", "meta\u00a01\n",
		"meta 1\n\n", "\nmeta 1\n", "meta\n\n", "meta\n1\n", "meta 1\n2\n", "meta 1\n 2\n", "meta 1 \n2\n", "meta 1\nmeta 2\n", "meta 1\nx", "meta 1\n ", "meta 1\n\x00",
		"meta x\n", "meta 1 x\n", "meta x 1\n", "meta 1 x 2\n", "meta meta\n", "meta meta 1\n", "meta 1 meta\n", "meta -\n", "meta --1\n", "meta 1-\n", "meta 1-2\n",
		"meta 01\n", "meta 1 02\n", "meta 00\n", "meta -0\n", "meta -01\n", "meta +1\n", "meta 1 +2\n", "meta 1_0\n", "meta 0x1\n", "meta 1.\n", "meta 1.0\n", "meta 1e1\n", "meta ١\n", "meta １\n", "meta \xff\n",
		"meta 0 x\n", "meta 2 1 x\n", "meta 1 1", "meta 0", "meta 0 01\n", strings.Repeat("meta 1\n", 50), strings.Repeat(" ", 1<<16), strings.Repeat("\n", 1<<16), "meta" + strings.Repeat(" ", 1<<16) + "\n",
	} {
		checkUnread(t, s, -1, api.ErrText)
	}
	for s := range rightIDs() {
		for at := range len(s) {
			checkUnread(t, s[:at], -1, api.ErrText)
			checkUnread(t, s[:at]+"\n"+s[at:], -1, api.ErrText)
			checkUnread(t, s[:at]+"x"+s[at:], -1, api.ErrText)
		}
		for _, more := range []string{"\n", " ", "x", "2", s} {
			checkUnread(t, s+more, -1, api.ErrText)
		}
	}
}

// P81: one more, behind the last one.
func TestPush(t *testing.T) {
	for _, c := range []struct {
		ids  []int
		id   int
		want string
	}{
		{[]int{1}, 2, "[1 2]"},
		{[]int{1}, big, "[1 1073741824]"},
		{[]int{big - 1}, big, "[1073741823 1073741824]"},
		{[]int{2, 5, 7}, 8, "[2 5 7 8]"},
		{[]int{2, 5, 7}, 100, "[2 5 7 100]"},
	} {
		was := slices.Clone(c.ids)
		if got, err := Push(c.ids, c.id); fmt.Sprint(got) != c.want || err != nil || Check(got) != nil || Now(got) != c.id {
			t.Errorf("Push(%v, %d): %v, %v", c.ids, c.id, got, err)
		}
		if !slices.Equal(c.ids, was) {
			t.Errorf("%v became %v", was, c.ids)
		}
	}
}

// P81: what would be is not right: that is told without a place.
func TestPushWrong(t *testing.T) {
	for _, ids := range [][]int{{7}, {2, 5, 7}, {1, 7}} {
		for id, want := range map[int]error{
			7: api.ErrOrder, 6: api.ErrOrder, 5: api.ErrOrder, 1: api.ErrOrder,
			0: api.ErrBound, -1: api.ErrBound, -7: api.ErrBound, big + 1: api.ErrBound, math.MinInt: api.ErrBound, math.MaxInt: api.ErrBound, 1<<32 + 9: api.ErrBound,
		} {
			if got, err := Push(ids, id); len(got) > 0 || err != want {
				t.Errorf("Push(%v, %d): %v, %#v", ids, id, got, err)
			}
		}
	}
	for id, want := range map[int]error{big: api.ErrOrder, 1: api.ErrOrder, big + 1: api.ErrBound} {
		if got, err := Push([]int{big}, id); len(got) > 0 || err != want {
			t.Errorf("Push([big], %d): %v, %#v", id, got, err)
		}
	}
}

// P81, P82: those that are in some, in the order of the IDs, and the last one always.
func TestKeep(t *testing.T) {
	ids := []int{2, 5, 7, 11}
	for _, c := range []struct {
		some []int
		want string
	}{
		{nil, "[11]"},
		{[]int{}, "[11]"},
		{[]int{11}, "[11]"},
		{[]int{11, 11}, "[11]"},
		{[]int{2}, "[2 11]"},
		{[]int{2, 2, 2}, "[2 11]"},
		{[]int{7}, "[7 11]"},
		{[]int{5, 2}, "[2 5 11]"},
		{[]int{11, 7, 5, 2}, "[2 5 7 11]"},
		{[]int{2, 5, 7, 11}, "[2 5 7 11]"},
		{[]int{2, 5, 7}, "[2 5 7 11]"},
		{[]int{1, 3, 4, 6, 8, 12}, "[11]"},
		{[]int{0, -2, -5, big + 1, math.MinInt, math.MaxInt, 1<<32 + 2}, "[11]"},
		{[]int{0, 5, -1, 5, 99, 7, 0}, "[5 7 11]"},
		{append(make([]int, 10000), 2), "[2 11]"},
	} {
		some := slices.Clone(c.some)
		got, err := Keep(ids, c.some)
		if fmt.Sprint(got) != c.want || err != nil || Check(got) != nil || Now(got) != 11 {
			t.Errorf("Keep(.., %.80v): %v, %v", c.some, got, err)
		}
		if !slices.Equal(ids, []int{2, 5, 7, 11}) || !slices.Equal(some, c.some) {
			t.Fatal("what was given has changed", ids)
		}
	}
	for _, some := range [][]int{nil, {9}, {4}} {
		if got, err := Keep([]int{9}, some); fmt.Sprint(got) != "[9]" || err != nil {
			t.Error(some, got, err)
		}
	}
}

// P81: the last one, whatever the list.
func TestNow(t *testing.T) {
	for _, c := range []struct {
		ids  []int
		want int
	}{
		{nil, 0},
		{[]int{1}, 1},
		{[]int{2, 5, 7}, 7},
		{[]int{big}, big},
		{long(api.MaxSnaps), 2 * api.MaxSnaps},
		{long(api.MaxSnaps)[:3], 6},
		{long(1000), 2000},
		{[]int{7, 5}, 5},
		{[]int{7, -3}, -3},
		{[]int{math.MinInt}, math.MinInt},
	} {
		if got := Now(c.ids); got != c.want {
			t.Errorf("Now(%.80v): %d", c.ids, got)
		}
	}
}

// P3, P4: what is handed over is only read, up to its length, and what is answered is new memory.
func TestMemory(t *testing.T) {
	whole := long(8)
	was := slices.Clone(whole)
	ids, some := whole[:5], whole[1:3]
	Check(ids)
	Now(ids)
	text, _ := Text(ids)
	pushed, _ := Push(ids, 99)
	all, _ := Keep(ids, ids)
	few, _ := Keep(ids, some)
	if !slices.Equal(whole, was) {
		t.Fatal("what was given has changed", whole)
	}
	for name, l := range map[string][]int{"pushed": pushed, "all": all, "few": few} {
		if l = append(l, 77); len(l) < 4 {
			t.Error(name, l)
		}
		clear(l[:cap(l)])
		if !slices.Equal(whole, was) {
			t.Fatal(name, "shares memory with what was given")
		}
	}
	one, _ := Read(text)
	two, _ := Read(text)
	clear(one[:cap(one)])
	if !slices.Equal(two, was[:5]) {
		t.Error("two answers share memory", two)
	}
	if three, _ := Read(text); !slices.Equal(three, was[:5]) {
		t.Error("an answer was kept", three)
	}
	// What is answered does not change with what was given.
	pushed, _ = Push(ids, 99)
	few, _ = Keep(ids, some)
	clear(whole)
	if fmt.Sprint(pushed, few) != "[2 4 6 8 10 99] [4 6 10]" {
		t.Error(pushed, few)
	}
}

// randomIDs are right.
func randomIDs(r *rand.Rand) []int {
	var ids []int
	for range r.Intn(api.MaxSnaps) + 1 {
		ids = append(ids, r.Intn(1<<r.Intn(31))+1)
	}
	slices.Sort(ids)
	return slices.Compact(ids)
}

// P81, P82: many are read as they were written; the one of now is always kept, and beside it those in some.
func TestMany(t *testing.T) {
	r := rand.New(rand.NewSource(8))
	for range 3000 {
		ids := randomIDs(r)
		text, err := Text(ids)
		if text != textOf(ids) || err != nil || Check(ids) != nil {
			t.Fatal(ids, text, err)
		}
		if got, err := Read(text); !slices.Equal(got, ids) || err != nil {
			t.Fatal(ids, got, err)
		}
		var some, want []int
		for at, id := range ids {
			in := r.Intn(3) == 0
			if in {
				some = append(some, id)
			}
			if in || at == len(ids)-1 {
				want = append(want, id)
			}
		}
		r.Shuffle(len(some), func(i, j int) { some[i], some[j] = some[j], some[i] })
		kept, err := Keep(ids, some)
		if !slices.Equal(kept, want) || err != nil || Now(kept) != Now(ids) {
			t.Fatal(ids, some, kept, err)
		}
	}
}

// P80, P82: pushed one by one, they are what would be written whole, up to as many as there may be.
func TestPushedOneByOne(t *testing.T) {
	ids := []int{2}
	for i := 1; i < api.MaxSnaps; i++ {
		more, err := Push(ids, 2*i+2)
		if err != nil || !slices.Equal(more[:i], ids) {
			t.Fatal(i, more, err)
		}
		ids = more
	}
	if !slices.Equal(ids, long(api.MaxSnaps)) {
		t.Error(ids)
	}
	if got, err := Push(ids, big); len(got) > 0 || err != api.ErrFull {
		t.Error(got, err)
	}
}

// P1, P3, P82: whatever the text: IDs that are written the same, or an error of those that are named, and no IDs.
func FuzzRead(f *testing.F) {
	for s := range rightIDs() {
		f.Add(s)
		f.Add(s + "x")
		f.Add(strings.Replace(s, " ", " 0 ", 1))
	}
	f.Add("meta\n")
	f.Add("meta 2 1\n")
	f.Add(textOf(long(api.MaxSnaps)))
	f.Add(textOf(long(api.MaxSnaps + 1)))
	f.Fuzz(func(t *testing.T, s string) {
		ids, err := Read(s)
		if err == nil {
			if back, err := Text(ids); back != s || err != nil || Check(ids) != nil {
				t.Errorf("Read(%q): %v, which is written %q, %v", s, ids, back, err)
			}
			return
		}
		var fault *api.Fault
		named := []error{api.ErrText, api.ErrNone, api.ErrFull}
		if errors.As(err, &fault) {
			named, err = []error{api.ErrBound, api.ErrOrder}, fault.Err
		}
		if len(ids) > 0 || !slices.Contains(named, err) {
			t.Errorf("Read(%q): %v, %#v", s, ids, err)
		}
	})
}

// P1, P80 to P82: whatever IDs are handed over: a text that is read as it was written, one more at the end, some kept and the last one; or Check's error and nothing.
func FuzzIDs(f *testing.F) {
	f.Add(1, 2, 3, 3, 9)
	f.Add(0, 2, 1, 0, -1)
	f.Add(5, big, big+1, 2, big)
	f.Add(2, 5, 7, 40, 81)
	f.Fuzz(func(t *testing.T, a, b, c, n, id int) {
		ids := []int{a, b, c}[:max(0, min(n, 3))]
		if n > 3 {
			ids = long(min(n, 50))
		}
		bad := Check(ids)
		text, err := Text(ids)
		if !reflect.DeepEqual(err, bad) || (err == nil) != (text != "") {
			t.Errorf("Text(%v): %q, %v, %v", ids, text, err, bad)
		}
		kept, keptErr := Keep(ids, []int{id, b})
		pushed, pushedErr := Push(ids, id)
		if bad != nil {
			if !reflect.DeepEqual(keptErr, bad) || !reflect.DeepEqual(pushedErr, bad) || len(kept)+len(pushed) > 0 {
				t.Errorf("%v: %v, %v, %v, %v", ids, kept, keptErr, pushed, pushedErr)
			}
			return
		}
		if got, err := Read(text); !slices.Equal(got, ids) || err != nil {
			t.Errorf("Read(%q): %v, %v", text, got, err)
		}
		if keptErr != nil || Now(kept) != Now(ids) || Check(kept) != nil || slices.Contains(ids, b) != slices.Contains(kept, b) {
			t.Errorf("Keep(%v, [%d %d]): %v, %v", ids, id, b, kept, keptErr)
		}
		would := append(slices.Clone(ids), id)
		want := Check(would)
		if fault, ok := want.(*api.Fault); ok {
			want = fault.Err
		}
		if pushedErr != want || want == nil && !slices.Equal(pushed, would) || want != nil && len(pushed) > 0 {
			t.Errorf("Push(%v, %d): %v, %v", ids, id, pushed, pushedErr)
		}
	})
}

func ExampleText() {
	text, err := Text([]int{1, 3, 7})
	fmt.Printf("%q %v\n", text, err)
	// Output: "meta 1 3 7\n" <nil>
}
