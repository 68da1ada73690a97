package pack

import (
	"errors"
	"fmt"
	"math"
	"math/rand"
	"slices"
	"strconv"
	"strings"
	"testing"

	"deedbox/api"
	"deedbox/data"
	"deedbox/file"
	"deedbox/gone"
	"deedbox/list"
	"deedbox/row"
	"deedbox/scan"
	"deedbox/snap"
	"deedbox/store"
)

const big = api.MaxNum

// filesOf words, each `PATH:PART:N:SEQ`; a path alone is of `eu` (or of no group), with one row (or key), and of Seq 1.
func filesOf(words string) []api.File {
	var l []api.File
	for _, word := range strings.Fields(words) {
		path, rest, _ := strings.Cut(word, ":")
		f := api.File{Path: path, Part: "eu", N: 1, Lo: -3, Hi: 5, Seq: 1}
		if strings.HasPrefix(path, "gone/") {
			f.Part = "-"
		}
		for i, x := range strings.Split(rest, ":") {
			n, _ := strconv.Atoi(x)
			switch {
			case x == "":
			case i == 0:
				f.Part = x
			case i == 1:
				f.N = n
			case i == 2:
				f.Seq = n
			}
		}
		l = append(l, f)
	}
	return l
}

// many files, of n rows each.
func many(count, n int) []api.File {
	var l []api.File
	for i := range count {
		l = append(l, api.File{Path: "data/" + strconv.Itoa(i+1), Part: "eu", N: n, Seq: 1})
	}
	return l
}

func wantPlan(t *testing.T, l []api.File, least int, want string) {
	t.Helper()
	if got, err := Plan(l, least); fmt.Sprint(got) != want || err != nil {
		t.Errorf("Plan(%v, %d): %v, %v, not %v", l, least, got, err, want)
	}
}

func wantIdle(t *testing.T, l []api.File, want string) {
	t.Helper()
	if got, err := Idle(l); fmt.Sprint(got) != want || err != nil {
		t.Errorf("Idle(%v): %v, %v, not %v", l, got, err, want)
	}
}

// isFault: the place is told, and the error beneath it is bare; below 0: no place is told.
func isFault(err error, at int, want error) bool {
	if at < 0 {
		return err == want
	}
	f, ok := err.(*api.Fault)
	return ok && f.At == at && f.Err == want
}

// P120: the first group with room, although a later one has more of it, or is fuller.
func TestFirstWithRoom(t *testing.T) {
	for _, c := range []struct{ files, want string }{
		{"", "[]"},
		{"data/1", "[]"},
		{"data/1 data/2", "[[data/1 data/2]]"},
		{"data/1::20 data/2::20", "[[data/1 data/2]]"},
		{"data/1::20 data/2::21", "[]"},
		{"data/1::39 data/2::1 data/3::1", "[[data/1 data/2]]"},
		{"data/1::39 data/2::2 data/3::1", "[[data/1 data/3]]"},
		{"data/1::40 data/2::40 data/3::40", "[]"},
		{"data/1::40 data/2::1 data/3::1", "[[data/2 data/3]]"},
		{"data/1::30 data/2::35 data/3::5 data/4::5 data/5::5", "[[data/1 data/3 data/4] [data/2 data/5]]"},
		{"data/1::30 data/2::15 data/3::10 data/4::25", "[[data/1 data/3] [data/2 data/4]]"},
		{"data/1::15 data/2::30 data/3::10 data/4::10", "[[data/1 data/3 data/4]]"},
		{"data/1::15 data/2::30 data/3::25 data/4::10", "[[data/1 data/3] [data/2 data/4]]"},
		{"data/1::21 data/2::21 data/3::21 data/4::19 data/5::19", "[[data/1 data/4] [data/2 data/5]]"},
		{"data/1::20 data/2::30 data/3::30 data/4::10 data/5::10 data/6::10 data/7::10", "[[data/1 data/4 data/5] [data/2 data/6] [data/3 data/7]]"},
	} {
		wantPlan(t, filesOf(c.files), 41, c.want)
	}
}

// P120: of fewer than least rows: not of as many.
func TestLeast(t *testing.T) {
	l := filesOf("data/1::1 data/2::2 data/3::2 data/4::1 data/5::39 data/6::40")
	for least, want := range map[int]string{
		0:  "[]",
		1:  "[]",
		2:  "[[data/1 data/4]]",
		3:  "[[data/1 data/2 data/3 data/4]]",
		39: "[[data/1 data/2 data/3 data/4]]",
		40: "[[data/1 data/2 data/3 data/4]]",
		41: "[[data/1 data/2 data/3 data/4]]",
	} {
		wantPlan(t, l, least, want)
	}
	l = filesOf("data/1::39 data/2::1 data/3::20 data/4::20")
	for least, want := range map[int]string{
		20: "[]",
		21: "[[data/2 data/3]]",
		39: "[[data/2 data/3]]",
		40: "[[data/1 data/2] [data/3 data/4]]",
	} {
		wantPlan(t, l, least, want)
	}
}

// P120: those of one Part alone are together; groups stand by Parts, rising by their bytes, then as they were begun, wherever their files stand.
func TestParts(t *testing.T) {
	for _, c := range []struct{ files, want string }{
		{"data/1:a data/2:b", "[]"},
		{"data/1:b data/2:a data/3:b data/4:a", "[[data/2 data/4] [data/1 data/3]]"},
		{"data/1:b2 data/2:b10 data/3:b2 data/4:b10 data/5:b data/6:b", "[[data/5 data/6] [data/2 data/4] [data/1 data/3]]"},
		{"data/1:t0 data/2:n1 data/3:t0 data/4:n1", "[[data/2 data/4] [data/1 data/3]]"},
		{"data/1:z:30 data/2:a:22 data/3:z:30 data/4:a:21 data/5:a:19 data/6:z:10 data/7:a:18 data/8:z:10", "[[data/2 data/7] [data/4 data/5] [data/1 data/6] [data/3 data/8]]"},
		{"data/1:z:30 data/2:a:20 data/3:z:30 data/4:a:20 data/5:a:40 data/6:z:10 data/7:m:20 data/8:z:10", "[[data/2 data/4] [data/1 data/6] [data/3 data/8]]"},
		// A group of another Part, with room, is none for it.
		{"data/1:a:10 data/2:b:10 data/3:b:10 data/4:a:10", "[[data/1 data/4] [data/2 data/3]]"},
	} {
		wantPlan(t, filesOf(c.files), 41, c.want)
	}
}

// P120: files stand by their numbers, not by their texts, and their Seqs do not count; files of keys are in no group.
func TestListOrder(t *testing.T) {
	wantPlan(t, filesOf("data/2::1:9 data/10::1:3 data/9999::1:1 gone/1::1:9 gone/2::1:9"), 41, "[[data/2 data/10 data/9999]]")
	wantPlan(t, filesOf("gone/1 gone/2 gone/3"), 41, "[]")
	wantPlan(t, filesOf("data/5 gone/1 gone/5"), 41, "[]")
	wantPlan(t, filesOf("data/5 data/1073741824 gone/5"), 41, "[[data/5 data/1073741824]]")
}

// P120: as many files as there may be.
func TestMost(t *testing.T) {
	for n, want := range map[int][]int{1: {40, 20}, 2: {20, 20, 20}, 13: slices.Repeat([]int{3}, 20), 20: slices.Repeat([]int{2}, 30), 21: nil, 40: nil} {
		groups, err := Plan(many(api.MaxFiles, n), 41)
		var sizes []int
		for _, g := range groups {
			sizes = append(sizes, len(g))
		}
		if !slices.Equal(sizes, want) || err != nil {
			t.Error(n, sizes, err)
		}
	}
}

// P120: files of keys that are not above any file of rows.
func TestIdle(t *testing.T) {
	for _, c := range []struct{ files, want string }{
		{"", "[]"},
		{"data/1", "[]"},
		{"gone/1 gone/2::1:9", "[gone/1 gone/2]"},
		{"data/1::1:5 gone/1::1:4 gone/2::1:5 gone/3::1:6", "[gone/1 gone/2]"},
		{"data/1::1:5 gone/1::1:6 gone/2::1:5 gone/10::1:4", "[gone/2 gone/10]"},
		{"data/1::1:9 data/2::1:5 data/3::1:7 gone/1::1:5 gone/2::1:6 gone/3::1:1 gone/4::1:9", "[gone/1 gone/3]"},
		// Its keys, and those of the rows, do not count, nor do Parts.
		{"data/1:a:40:1 gone/1::1:2", "[]"},
		// A file of keys is none of rows.
		{"data/1::1:3 gone/1::1:1 gone/2::1:3", "[gone/1 gone/2]"},
		{"data/1::1:1073741824 gone/1::1:1073741824", "[gone/1]"},
		{"data/1::1:1073741823 gone/1::1:1073741824", "[]"},
	} {
		wantIdle(t, filesOf(c.files), c.want)
	}
}

// wrongLists, with what list.Check says of them.
func wrongLists() map[*api.Fault][]api.File {
	bound := filesOf("data/1 data/2")
	bound[1].Hi = big + 1
	return map[*api.Fault][]api.File{
		{At: -1, Err: api.ErrFull}: many(api.MaxFiles+1, 1),
		{At: 0, Err: api.ErrName}:  {{}},
		{At: 1, Err: api.ErrName}:  filesOf("data/1 data/02"),
		{At: 0, Err: api.ErrKind}:  filesOf("data/1:- data/2"),
		{At: 1, Err: api.ErrKind}:  filesOf("data/1 gone/2:eu"),
		{At: 1, Err: api.ErrBound}: bound,
		{At: 2, Err: api.ErrBound}: filesOf("data/1 data/2 data/3::41"),
		{At: 1, Err: api.ErrOrder}: filesOf("gone/1 data/2"),
		{At: 2, Err: api.ErrOrder}: filesOf("data/1 data/10 data/2"),
		{At: 3, Err: api.ErrOrder}: filesOf("data/1 data/2 data/3 data/3 data/1"),
	}
}

// P120: what list.Check says, with its place, ahead of a wrong number.
func TestWrongLists(t *testing.T) {
	for want, l := range wrongLists() {
		for _, least := range []int{0, 41, -1, 42, math.MinInt} {
			if got, err := Plan(l, least); len(got) != 0 || !isFault(err, want.At, want.Err) {
				t.Errorf("Plan(%v, %d): %v, %#v", l, least, got, err)
			}
		}
		if got, err := Idle(l); len(got) != 0 || !isFault(err, want.At, want.Err) {
			t.Errorf("Idle(%v): %v, %#v", l, got, err)
		}
	}
}

// P120: a number from 0 to one more than a file may have rows.
func TestWrongLeast(t *testing.T) {
	for _, l := range [][]api.File{nil, {}, filesOf("data/1 data/2")} {
		for _, least := range []int{-1, 42, big, -big, math.MaxInt, math.MinInt} {
			if got, err := Plan(l, least); len(got) != 0 || err != api.ErrBound {
				t.Errorf("Plan(%v, %d): %v, %v", l, least, got, err)
			}
		}
		for least := range 42 {
			if _, err := Plan(l, least); err != nil {
				t.Error(least, err)
			}
		}
	}
}

// table of files: rows `PART KEY VAL`, or keys, told by paths and Seqs, as a store and a snap.
type table struct {
	t  *testing.T
	st *store.Store
	s  api.Snap
}

func newTable(t *testing.T) *table {
	return &table{t: t, st: store.New(), s: api.Snap{ID: 9, Parent: 4, Seq: 20, Day: 3, Index: 2, Op: "append"}}
}

func (x *table) put(path, part, text string, seq int, err error) {
	x.t.Helper()
	f, known := file.Of(path, part, text, seq)
	if err := errors.Join(err, known, x.st.Put(path, text)); err != nil {
		x.t.Fatal(path, err)
	}
	x.s.Files = append(x.s.Files, f)
}

func (x *table) rows(path string, seq int, rows ...api.Row) {
	x.t.Helper()
	text, err := data.Make(rows)
	x.put(path, "eu", text, seq, err)
}

func (x *table) keys(path string, seq int, keys ...int) {
	x.t.Helper()
	text, err := gone.Make(keys)
	x.put(path, "-", text, seq, err)
}

// again: a copy of its store in which an object is another one; none, if it is empty.
func (x *table) again(path, text string) *store.Store {
	x.t.Helper()
	st := x.st.Copy()
	err := st.Drop(path)
	if text != "" {
		err = errors.Join(err, st.Put(path, text))
	}
	if err != nil {
		x.t.Fatal(path, err)
	}
	return st
}

func r(part string, key, val int) api.Row { return api.Row{Part: part, Key: key, Val: val} }

// some files, of which something is gone.
func some(t *testing.T) *table {
	x := newTable(t)
	x.rows("data/1", 1, r("us", 1, 10), r("eu", 2, 20), r("eu", 5, 50))
	x.rows("data/4", 3, r("eu", 2, 21), r("eu", 7, 70), r("as", 2, 0))
	x.rows("data/30", 5, r("eu", -3, -30), r("eu", 7, 71), r("eu", 7, 71))
	x.rows("data/31", 1, r("eu", 7, 1), r("eu", 2, 1))
	x.keys("gone/2", 2, 2, 7)
	x.keys("gone/5", 5, 7, 100)
	return x
}

func wantRows(t *testing.T, x *table, paths []string, want ...api.Row) {
	t.Helper()
	if got, err := Rewrite(x.st, x.s, paths); !slices.Equal(got, want) || err != nil {
		t.Errorf("Rewrite(%v): %v, %v, not %v", paths, got, err, want)
	}
}

// P121: rows of some files, sorted, but those that any file of keys above them has.
func TestRewrite(t *testing.T) {
	x := some(t)
	one, four, thirty := []api.Row{r("eu", 5, 50), r("us", 1, 10)}, []api.Row{r("as", 2, 0), r("eu", 2, 21)}, []api.Row{r("eu", -3, -30), r("eu", 7, 71), r("eu", 7, 71)}
	wantRows(t, x, nil)
	wantRows(t, x, []string{})
	wantRows(t, x, []string{"data/1"}, one...)
	wantRows(t, x, []string{"data/4"}, four...)
	wantRows(t, x, []string{"data/30"}, thirty...)
	wantRows(t, x, []string{"data/31"})
	wantRows(t, x, []string{"data/1", "data/30"}, row.Sort(slices.Concat(one, thirty))...)
	wantRows(t, x, []string{"data/30", "data/1"}, row.Sort(slices.Concat(one, thirty))...)
	wantRows(t, x, []string{"data/31", "data/30", "data/4", "data/1"}, row.Sort(slices.Concat(one, four, thirty))...)
	// One that is told twice is one file.
	wantRows(t, x, []string{"data/4", "data/4"}, four...)
	wantRows(t, x, []string{"data/30", "data/4", "data/30"}, row.Sort(slices.Concat(four, thirty))...)
}

// P121: keys at their bounds, and more rows than a file may have.
func TestRewriteEdges(t *testing.T) {
	x := newTable(t)
	wantRows(t, x, nil)
	x.rows("data/1", 1, r("eu", -big, big), r("eu", big, -big))
	x.rows("data/2", 1, slices.Repeat([]api.Row{r("eu", 0, 0)}, api.MaxRows)...)
	x.rows("data/3", 1, slices.Repeat([]api.Row{r("eu", 1, 1)}, api.MaxRows)...)
	wantRows(t, x, []string{"data/1"}, r("eu", -big, big), r("eu", big, -big))
	if l, err := Rewrite(x.st, x.s, []string{"data/1", "data/2", "data/3"}); len(l) != 2*api.MaxRows+2 || err != nil {
		t.Error(len(l), err)
	}
	x.keys("gone/1", 2, -big, big)
	wantRows(t, x, []string{"data/1"})
}

// wantError, and nothing else; nothing is changed.
func wantError(t *testing.T, st *store.Store, s api.Snap, paths []string, at int, want error) {
	t.Helper()
	before, files, given := st, slices.Clone(s.Files), slices.Clone(paths)
	if st != nil {
		before = st.Copy()
	}
	if l, err := Rewrite(st, s, paths); len(l) != 0 || !isFault(err, at, want) {
		t.Errorf("Rewrite(%v): %v, %#v, not %v at %d", paths, l, err, want, at)
	}
	if !store.Same(st, before) || !slices.Equal(s.Files, files) || !slices.Equal(paths, given) {
		t.Error("something was changed")
	}
}

// P121: no store, ahead of a wrong snap, ahead of a path that is none, ahead of what a file is.
func TestRewriteErrorOrder(t *testing.T) {
	x := some(t)
	none := []string{"data/1", "data/9"}
	late := x.s
	late.Seq = 4
	kind := x.s
	kind.Op = ""
	wantError(t, nil, api.Snap{}, none, -1, api.ErrShape)
	wantError(t, nil, x.s, nil, -1, api.ErrShape)
	wantError(t, x.st, api.Snap{}, none, -1, api.ErrBound)
	wantError(t, x.st, kind, none, -1, api.ErrKind)
	wantError(t, x.st, late, none, 2, api.ErrOrder)
	for want, l := range wrongLists() {
		wrong := x.s
		wrong.Files = l
		wantError(t, x.st, wrong, none, want.At, want.Err)
		wantError(t, x.st, wrong, nil, want.At, want.Err)
	}
	wantError(t, store.New(), x.s, none, 1, api.ErrNone)
	wantError(t, store.New(), x.s, none[:1], -1, api.ErrNone)
}

// P121: the first path that is no file of rows of the snap, by its place among the paths.
func TestRewriteNone(t *testing.T) {
	x := some(t)
	for _, path := range []string{"", "x", "data/", "data/2", "data/01", "data/3", "gone/2", "gone/5", "gone/1", "snap/1", "data/1 ", "DATA/1"} {
		wantError(t, x.st, x.s, []string{path}, 0, api.ErrNone)
		wantError(t, x.st, x.s, []string{"data/30", "data/1", path, "y"}, 2, api.ErrNone)
	}
	// An object that is there is none of the snap's.
	text, err := x.st.Get("data/1")
	if err := errors.Join(err, x.st.Put("data/7", text)); err != nil {
		t.Fatal(err)
	}
	wantError(t, x.st, x.s, []string{"data/7"}, 0, api.ErrNone)
	wantError(t, x.st, snap.First(), []string{"data/1"}, 0, api.ErrNone)
}

// P121: what is wrong with a file of the group, or with any file of keys, is told bare; other files of rows are not read.
func TestRewriteWrongFiles(t *testing.T) {
	x := some(t)
	one, err := data.Make([]api.Row{r("eu", 1, 1)})
	key, wrong := gone.Make([]int{3})
	if err := errors.Join(err, wrong); err != nil {
		t.Fatal(err)
	}
	texts := map[string]error{"": api.ErrNone, "x": api.ErrText, "data 1 1 1 7\neu 1 1\n": api.ErrSum, "gone 1 1 1 7\n1\n": api.ErrSum}
	for text, want := range texts {
		if !strings.HasPrefix(text, "gone") {
			wantError(t, x.again("data/4", text), x.s, []string{"data/4"}, -1, want)
			wantError(t, x.again("data/4", text), x.s, []string{"data/30", "data/4"}, -1, want)
		}
		if !strings.HasPrefix(text, "data") {
			for _, paths := range [][]string{nil, {"data/1"}, {"data/30"}, {"data/4", "data/31"}} {
				wantError(t, x.again("gone/2", text), x.s, paths, -1, want)
				wantError(t, x.again("gone/5", text), x.s, paths, -1, want)
			}
		}
		y := some(t)
		y.st = x.again("data/1", text)
		wantRows(t, y, []string{"data/4"}, r("as", 2, 0), r("eu", 2, 21))
	}
	wantError(t, x.again("data/4", one), x.s, []string{"data/4"}, -1, api.ErrShape)
	wantError(t, x.again("gone/5", key), x.s, nil, -1, api.ErrShape)
	// The first of the list, not of the paths.
	y := some(t)
	y.st = x.again("data/4", one)
	wantError(t, y.again("data/1", "x"), x.s, []string{"data/4", "data/1"}, -1, api.ErrText)
	wantError(t, y.again("gone/2", "x"), x.s, []string{"data/4"}, -1, api.ErrShape)
}

// P121: power that is off takes nothing from what is there.
func TestRewriteOff(t *testing.T) {
	x := some(t)
	if err := x.st.Cut(0); err != nil {
		t.Fatal(err)
	}
	if err := x.st.Put("data/99", "x"); err != api.ErrOff {
		t.Fatal(err)
	}
	wantRows(t, x, []string{"data/4"}, r("as", 2, 0), r("eu", 2, 21))
}

// P3, P4: what is handed over is only read, what lies behind it is left, and what is answered is new memory.
func TestMemory(t *testing.T) {
	all := filesOf("data/1:b data/2:a data/3:b data/4:a gone/1 gone/2 gone/3 gone/4")
	was := slices.Clone(all)
	groups, err := Plan(all[:6], 41)
	idle, err2 := Idle(all[:6])
	if fmt.Sprint(groups, idle) != "[[data/2 data/4] [data/1 data/3]] [gone/1 gone/2]" || err != nil || err2 != nil || !slices.Equal(all, was) {
		t.Fatal(groups, idle, err, err2)
	}
	clear(all)
	if fmt.Sprint(groups, idle) != "[[data/2 data/4] [data/1 data/3]] [gone/1 gone/2]" {
		t.Error("an answer hangs on what was given")
	}
	groups[0] = append(groups[0], "x")
	clear(groups[0][:cap(groups[0])])
	if fmt.Sprint(groups[1]) != "[data/1 data/3]" {
		t.Error("groups share memory")
	}

	x := some(t)
	paths := []string{"data/4", "data/30", "data/1"}
	files, before := slices.Clone(x.s.Files), x.st.Copy()
	l, err := Rewrite(x.st, x.s, paths[:1])
	clear(l[:cap(l)])
	if err != nil || !slices.Equal(x.s.Files, files) || !slices.Equal(paths, []string{"data/4", "data/30", "data/1"}) || !store.Same(x.st, before) {
		t.Error("what was given has changed")
	}
	wantRows(t, x, paths[:1], r("as", 2, 0), r("eu", 2, 21))
}

// randomFiles of some Parts.
func randomFiles(x *rand.Rand) []api.File {
	var l []api.File
	for i := range x.Intn(api.MaxFiles + 1) {
		f := api.File{Path: "data/" + strconv.Itoa(2*i+1), Part: string(rune('a' + x.Intn(4))), N: x.Intn(x.Intn(api.MaxRows)+1) + 1, Seq: x.Intn(9) + 1}
		if x.Intn(20) == 0 {
			f = api.File{Path: "gone/" + strconv.Itoa(i+1), Part: "-", N: 1, Seq: x.Intn(9) + 1}
		}
		l = append(l, f)
	}
	slices.SortStableFunc(l, func(a, b api.File) int { return strings.Compare(a.Path[:4], b.Path[:4]) })
	return l
}

// plainPlan is the plainest way to the groups: Part by Part, each file held against the sums of the groups so far.
func plainPlan(l []api.File, least int) [][]string {
	var out [][]string
	for part := 'a'; part <= 'd'; part++ {
		var groups [][]string
		var sums []int
	files:
		for _, f := range l {
			if f.Part != string(part) || f.N >= least {
				continue
			}
			for i := range groups {
				if sums[i]+f.N <= 40 {
					groups[i], sums[i] = append(groups[i], f.Path), sums[i]+f.N
					continue files
				}
			}
			groups, sums = append(groups, []string{f.Path}), append(sums, f.N)
		}
		for _, g := range groups {
			if len(g) >= 2 {
				out = append(out, g)
			}
		}
	}
	return out
}

// P120, P122: any list: groups of at least two, of one Part, with room; each file in one at most; as the plainest way has them.
func TestAnyPlan(t *testing.T) {
	x := rand.New(rand.NewSource(12))
	for range 5000 {
		l, least := randomFiles(x), x.Intn(42)
		groups, err := Plan(l, least)
		if err != nil || fmt.Sprint(groups) != fmt.Sprint(plainPlan(l, least)) {
			t.Fatal(l, least, groups, err)
		}
		rightGroups(t, l, least, groups)
	}
}

func rightGroups(t *testing.T, l []api.File, least int, groups [][]string) {
	t.Helper()
	seen := map[string]bool{}
	for _, g := range groups {
		rows, parts := 0, map[string]bool{}
		for _, path := range g {
			at := list.Find(l, path)
			if at < 0 || seen[path] || l[at].N >= least || file.IsGone(l[at]) {
				t.Fatal(l, groups, path)
			}
			seen[path], parts[l[at].Part] = true, true
			rows += l[at].N
		}
		if len(g) < 2 || len(parts) != 1 || rows > api.MaxRows {
			t.Fatal(l, groups, g)
		}
	}
}

// randomTable whose files are all of rows of few keys, so that many of them are gone.
func randomTable(t *testing.T, x *rand.Rand) *table {
	y := newTable(t)
	for i := range x.Intn(9) {
		var l []api.Row
		for range x.Intn(6) + 1 {
			l = append(l, r("eu", x.Intn(9), x.Intn(3)))
		}
		y.rows("data/"+strconv.Itoa(i+1), x.Intn(20)+1, l...)
	}
	for i := range x.Intn(5) {
		y.keys("gone/"+strconv.Itoa(i+1), x.Intn(20)+1, x.Intn(9), x.Intn(9))
	}
	return y
}

// P122: what is rewritten has the rows that it had: with one file of them in place of each group, as old as the snap, and without the idle files of keys, the table is what it was.
func TestSameRows(t *testing.T) {
	x := rand.New(rand.NewSource(122))
	packed, idled := 0, 0
	for range 1500 {
		y := randomTable(t, x)
		want, err := scan.Rows(y.st, y.s, -big, big)
		groups, err2 := Plan(y.s.Files, x.Intn(42))
		idle, err3 := Idle(y.s.Files)
		if err := errors.Join(err, err2, err3); err != nil {
			t.Fatal(err)
		}
		z := &table{t: t, st: y.st, s: y.s}
		z.s.Files = slices.DeleteFunc(slices.Clone(y.s.Files), func(f api.File) bool { return slices.Contains(slices.Concat(append(groups, idle)...), f.Path) })
		for i, g := range groups {
			rows, err := Rewrite(y.st, y.s, g)
			if err != nil || len(rows) > api.MaxRows {
				t.Fatal(g, len(rows), err)
			}
			if len(rows) > 0 {
				z.rows("data/"+strconv.Itoa(i+100), y.s.Seq, rows...)
			}
		}
		slices.SortFunc(z.s.Files, func(a, b api.File) int { return list.Order(a.Path, b.Path) })
		if got, err := scan.Rows(z.st, z.s, -big, big); !slices.Equal(got, want) || err != nil {
			t.Fatal(y.s, groups, idle, got, want, err)
		}
		packed, idled = packed+len(groups), idled+len(idle)
	}
	if packed < 500 || idled < 500 {
		t.Error("too little was done:", packed, idled)
	}
}

// P121: any files of any table: each alone and all together have the same rows.
func TestAnyRewrite(t *testing.T) {
	x := rand.New(rand.NewSource(121))
	for range 1000 {
		y := randomTable(t, x)
		var paths []string
		var want []api.Row
		for _, f := range y.s.Files {
			if file.IsGone(f) || x.Intn(2) == 0 {
				continue
			}
			rows, err := Rewrite(y.st, y.s, []string{f.Path})
			if err != nil {
				t.Fatal(err)
			}
			paths, want = append(paths, f.Path), append(want, rows...)
		}
		x.Shuffle(len(paths), func(i, j int) { paths[i], paths[j] = paths[j], paths[i] })
		wantRows(t, y, paths, row.Sort(want)...)
	}
}

// P1, P3: whatever is handed over: groups that are right, or an error that is named, and nothing else.
func FuzzPack(f *testing.F) {
	f.Add("data/1 eu 2 0 5 1\ndata/2 eu 1 0 5 1\ngone/1 - 1 0 0 1\n", 3, "data/1")
	f.Add("data/1 eu 40 0 5 1\n", 42, "gone/1")
	f.Add("data/2 eu 2 0 5 1\ndata/1 eu 1 0 5 1\n", -1, "")
	f.Fuzz(func(t *testing.T, text string, least int, path string) {
		l, _ := list.Read(text)
		groups, err := Plan(l, least)
		if err != nil && (err != api.ErrBound || len(groups) != 0) || (err == nil) != (0 <= least && least <= 41) {
			t.Fatal(groups, err)
		}
		rightGroups(t, l, least, groups)
		idle, err := Idle(l)
		if err != nil || slices.ContainsFunc(idle, func(path string) bool { return !strings.HasPrefix(path, "gone/") }) {
			t.Fatal(idle, err)
		}
		s := api.Snap{ID: 1, Seq: big, Op: "start", Files: l}
		rows, err := Rewrite(store.New(), s, []string{path})
		if len(rows) != 0 || !errors.Is(err, api.ErrNone) {
			t.Fatal(rows, err)
		}
	})
}

func ExamplePlan() {
	l := []api.File{
		{Path: "data/1", Part: "us", N: 5, Seq: 1},
		{Path: "data/2", Part: "eu", N: 30, Seq: 1},
		{Path: "data/3", Part: "eu", N: 15, Seq: 1},
		{Path: "data/4", Part: "eu", N: 10, Seq: 1},
		{Path: "data/5", Part: "us", N: 5, Seq: 1},
		{Path: "gone/6", Part: "-", N: 5, Seq: 1},
	}
	fmt.Println(Plan(l, 41))
	fmt.Println(Plan(l, 30))
	fmt.Println(Idle(l))
	// Output:
	// [[data/2 data/4] [data/1 data/5]] <nil>
	// [[data/3 data/4] [data/1 data/5]] <nil>
	// [gone/6] <nil>
}
