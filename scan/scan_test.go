package scan

import (
	"fmt"
	"hash/crc32"
	"math"
	"math/rand"
	"reflect"
	"slices"
	"strings"
	"testing"

	"deedbox/api"
	"deedbox/data"
	"deedbox/gone"
	"deedbox/list"
	"deedbox/snap"
	"deedbox/store"
)

const big = api.MaxNum

// told: a file, as a test tells it: of rows, or of keys.
type told struct {
	path string
	seq  int
	rows []api.Row
	keys []int
}

func rowsIn(path string, seq int, texts ...string) told {
	return told{path: path, seq: seq, rows: rowsOf(texts...)}
}

func keysIn(path string, seq int, keys ...int) told {
	return told{path: path, seq: seq, keys: keys}
}

// rowsOf texts, `PART KEY VAL` each.
func rowsOf(texts ...string) []api.Row {
	var l []api.Row
	for _, text := range texts {
		var r api.Row
		if _, err := fmt.Sscan(text, &r.Part, &r.Key, &r.Val); err != nil {
			panic(err)
		}
		l = append(l, r)
	}
	return l
}

func (f told) allKeys() []int {
	keys := slices.Clone(f.keys)
	for _, r := range f.rows {
		keys = append(keys, r.Key)
	}
	return keys
}

// known of a file, found out without package file.
func (f told) known() api.File {
	keys := f.allKeys()
	slices.Sort(keys)
	x := api.File{Path: f.path, Part: "eu", N: len(f.rows), Lo: keys[0], Hi: keys[len(keys)-1], Seq: f.seq}
	if f.rows == nil {
		x.Part, x.N = "-", len(slices.Compact(keys))
	}
	return x
}

func (f told) text(t *testing.T) string {
	t.Helper()
	text, err := data.Make(f.rows)
	if f.rows == nil {
		text, err = gone.Make(f.keys)
	}
	if err != nil {
		t.Fatal(f, err)
	}
	return text
}

// table of files, as a store and a snap.
func table(t *testing.T, files ...told) (*store.Store, api.Snap) {
	t.Helper()
	st, s := store.New(), api.Snap{ID: 9, Parent: 4, Seq: big, Day: 3, Index: 2, Op: "append"}
	for _, f := range files {
		put(t, st, f.path, f.text(t))
		s.Files = append(s.Files, f.known())
	}
	if err := snap.Check(s); err != nil {
		t.Fatal(err)
	}
	return st, s
}

func put(t *testing.T, st *store.Store, name, text string) {
	t.Helper()
	if err := st.Put(name, text); err != nil {
		t.Fatal(name, err)
	}
}

// anew: a copy of a store in which an object is another one.
func anew(t *testing.T, st *store.Store, name, text string) *store.Store {
	t.Helper()
	c := without(t, st, name)
	put(t, c, name, text)
	return c
}

func without(t *testing.T, st *store.Store, name string) *store.Store {
	t.Helper()
	c := st.Copy()
	if err := c.Drop(name); err != nil {
		t.Fatal(name, err)
	}
	return c
}

// plainRows is the plainest way to what a snap has: each row of each file, held against each key of each file.
func plainRows(files []told, lo, hi int) []api.Row {
	var l []api.Row
	for _, f := range files {
		for _, r := range f.rows {
			dead := slices.ContainsFunc(files, func(g told) bool { return g.seq > f.seq && slices.Contains(g.keys, r.Key) })
			if !dead && lo <= r.Key && r.Key <= hi {
				l = append(l, r)
			}
		}
	}
	for i := range l {
		for j := i; j > 0 && ahead(l[j], l[j-1]); j-- {
			l[j], l[j-1] = l[j-1], l[j]
		}
	}
	return l
}

func ahead(a, b api.Row) bool {
	if a.Part != b.Part {
		return a.Part < b.Part
	}
	if a.Key != b.Key {
		return a.Key < b.Key
	}
	return a.Val < b.Val
}

func wantRows(t *testing.T, st *store.Store, s api.Snap, lo, hi int, want []api.Row) {
	t.Helper()
	if l, err := Rows(st, s, lo, hi); !slices.Equal(l, want) || err != nil {
		t.Errorf("Rows from %d to %d: %v, %v, not %v", lo, hi, l, err, want)
	}
}

func wantCount(t *testing.T, st *store.Store, s api.Snap, want int) {
	t.Helper()
	if n, err := Count(st, s); n != want || err != nil {
		t.Errorf("Count: %d, %v, not %d", n, err, want)
	}
}

func wantValues(t *testing.T, st *store.Store, s api.Snap, key int, want ...int) {
	t.Helper()
	if l, err := Find(st, s, key); !slices.Equal(l, want) || err != nil {
		t.Errorf("Find(%d): %v, %v, not %v", key, l, err, want)
	}
}

// isFault: the place is told, and the error beneath it is bare; below 0: no place is told.
func isFault(err error, at int, want error) bool {
	if at < 0 {
		return err == want
	}
	f, ok := err.(*api.Fault)
	return ok && f.At == at && f.Err == want
}

// wantError of every call, at a key that the file in question may have; nothing else is answered, and nothing is changed.
func wantError(t *testing.T, st *store.Store, s api.Snap, key, at int, want error) {
	t.Helper()
	before, files := st, slices.Clone(s.Files)
	if st != nil {
		before = st.Copy()
	}
	if l, err := Rows(st, s, math.MinInt, math.MaxInt); len(l) != 0 || !isFault(err, at, want) {
		t.Errorf("Rows: %v, %#v, not %v at %d", l, err, want, at)
	}
	if l, err := Rows(st, s, key, key); len(l) != 0 || !isFault(err, at, want) {
		t.Errorf("Rows of %d: %v, %#v, not %v at %d", key, l, err, want, at)
	}
	if n, err := Count(st, s); n != 0 || !isFault(err, at, want) {
		t.Errorf("Count: %d, %#v, not %v at %d", n, err, want, at)
	}
	if l, err := Find(st, s, key); len(l) != 0 || !isFault(err, at, want) {
		t.Errorf("Find(%d): %v, %#v, not %v at %d", key, l, err, want, at)
	}
	if !store.Same(st, before) || !slices.Equal(s.Files, files) {
		t.Error("something was changed")
	}
}

// some files, with what is gone of each.
func some() []told {
	return []told{
		rowsIn("data/1", 1, "eu 1 10", "eu 2 20", "us 2 15", "eu 5 50"),
		rowsIn("data/4", 3, "eu 2 21", "as 2 99", "eu 7 70"),
		rowsIn("data/30", 5, "eu -3 -30", "eu 7 71", "eu 7 71"),
		keysIn("gone/2", 2, 2, 7),
		keysIn("gone/5", 5, 5, 7, 100),
		keysIn("gone/20", 4, -3, 7),
	}
}

// P100, P101: rows that are not gone, sorted, of some keys; how many; values.
func TestSome(t *testing.T) {
	st, s := table(t, some()...)
	all := rowsOf("as 2 99", "eu -3 -30", "eu 1 10", "eu 2 21", "eu 7 71", "eu 7 71")
	for _, c := range []struct {
		lo, hi int
		want   []api.Row
	}{
		{-big, big, all},
		{math.MinInt, math.MaxInt, all},
		{-3, 7, all},
		{-2, 7, rowsOf("as 2 99", "eu 1 10", "eu 2 21", "eu 7 71", "eu 7 71")},
		{-3, 6, rowsOf("as 2 99", "eu -3 -30", "eu 1 10", "eu 2 21")},
		{2, 2, rowsOf("as 2 99", "eu 2 21")},
		{1, 2, rowsOf("as 2 99", "eu 1 10", "eu 2 21")},
		{7, math.MaxInt, rowsOf("eu 7 71", "eu 7 71")},
		{math.MinInt, -3, rowsOf("eu -3 -30")},
		{3, 6, nil},
		{5, 5, nil},
		{8, 1, nil},
		{2, 1, nil},
		{math.MaxInt, math.MinInt, nil},
		{math.MaxInt, math.MaxInt, nil},
		{math.MinInt, math.MinInt, nil},
	} {
		wantRows(t, st, s, c.lo, c.hi, c.want)
	}
	wantCount(t, st, s, 6)
	wantValues(t, st, s, -3, -30)
	wantValues(t, st, s, 1, 10)
	wantValues(t, st, s, 5)
	wantValues(t, st, s, 100)
	for _, key := range []int{0, 8, big, -big, big + 1, math.MaxInt, math.MinInt} {
		wantValues(t, st, s, key)
	}
}

// P101: values rise, whatever Part they are of, and stand as often as there are rows.
func TestValues(t *testing.T) {
	st, s := table(t,
		rowsIn("data/1", 1, "as 4 30", "eu 4 -5", "eu 4 20", "us 4 10", "us 4 30", "us 3 1"),
		rowsIn("data/2", 2, "af 4 25", "eu 4 20"))
	wantValues(t, st, s, 4, -5, 10, 20, 20, 25, 30, 30)
	wantValues(t, st, s, 3, 1)
	wantCount(t, st, s, 8)
}

// P100: a key is gone for rows of files with a lower Seq, not for those of its own or a higher one.
func TestSeqs(t *testing.T) {
	for seq, want := range []int{0: 3, 1: 3, 2: 2, 3: 1, 4: 0, 5: 0} {
		files := []told{rowsIn("data/1", 1, "eu 5 1"), rowsIn("data/2", 2, "eu 5 2"), rowsIn("data/3", 3, "eu 5 3")}
		if seq > 0 {
			files = append(files, keysIn("gone/9", seq, 5))
		}
		st, s := table(t, files...)
		wantCount(t, st, s, want)
		values := []int{1, 2, 3}
		wantValues(t, st, s, 5, values[3-want:]...)
	}
	for _, seqs := range [][2]int{{2, 3}, {3, 2}, {2, big}, {big, 2}} {
		st, s := table(t, rowsIn("data/1", 2, "eu 5 1", "us 6 1"), keysIn("gone/1", seqs[0], 4, 5), keysIn("gone/2", seqs[1], 5, 7))
		wantRows(t, st, s, -big, big, rowsOf("us 6 1"))
	}
	st, s := table(t, rowsIn("data/1", big, "eu 5 1"), rowsIn("data/2", big-1, "eu 5 2"), keysIn("gone/1", big, 5))
	wantValues(t, st, s, 5, 1)
}

// P100: files of one Seq do not take each other's rows away, and no row is one with a like one.
func TestLikeRows(t *testing.T) {
	st, s := table(t, rowsIn("data/1", 2, "eu 5 1", "eu 5 1"), rowsIn("data/2", 2, "eu 5 1", "eu 6 0"), rowsIn("data/3", 1, "eu 5 1"))
	wantRows(t, st, s, 5, 5, rowsOf("eu 5 1", "eu 5 1", "eu 5 1", "eu 5 1"))
	wantCount(t, st, s, 5)
}

// The example of the document: a row, its key gone, the row again.
func TestExample(t *testing.T) {
	st, s := table(t, rowsIn("data/1", 1, "eu 7 1"), rowsIn("data/3", 3, "eu 7 1"), keysIn("gone/2", 2, 7))
	wantRows(t, st, s, 7, 7, rowsOf("eu 7 1"))
	wantCount(t, st, s, 1)
}

// P100, P101: no files, files of keys alone, keys at their bounds.
func TestEdges(t *testing.T) {
	st, s := table(t)
	for _, files := range [][]api.File{nil, {}} {
		s.Files = files
		wantRows(t, st, s, -big, big, nil)
		wantCount(t, st, s, 0)
		wantValues(t, st, s, 0)
	}
	wantCount(t, &store.Store{}, snap.First(), 0)
	st, s = table(t, keysIn("gone/1", 1, 5))
	wantCount(t, st, s, 0)
	st, s = table(t, rowsIn("data/1", 1, fmt.Sprint("eu ", -big, " ", big), fmt.Sprint("eu ", big, " ", -big), "eu 0 0"))
	wantCount(t, st, s, 3)
	wantValues(t, st, s, -big, big)
	wantValues(t, st, s, big, -big)
	wantValues(t, st, s, 0, 0)
	wantRows(t, st, s, -big, -big, rowsOf(fmt.Sprint("eu ", -big, " ", big)))
	wantRows(t, st, s, -big+1, big-1, rowsOf("eu 0 0"))
}

// P100: as many rows as a snap may have.
func TestMost(t *testing.T) {
	var files []told
	var all []api.Row
	for i := range api.MaxFiles {
		f := told{path: fmt.Sprint("data/", i+1), seq: i + 1}
		for j := range api.MaxRows {
			f.rows = append(f.rows, api.Row{Part: "eu", Key: j*api.MaxFiles + i, Val: -i})
		}
		files = append(files, f)
		all = append(all, f.rows...)
	}
	slices.SortFunc(all, func(a, b api.Row) int { return a.Key - b.Key })
	st, s := table(t, files...)
	wantRows(t, st, s, -big, big, all)
	wantRows(t, st, s, 100, 199, all[100:200])
	wantCount(t, st, s, api.MaxFiles*api.MaxRows)
}

// P100: what may have none of the keys is not read, be it what it may.
func TestUnread(t *testing.T) {
	files := []told{rowsIn("data/1", 1, "eu 0 1", "eu 10 1"), rowsIn("data/2", 1, "eu 4 2", "eu 6 2"), keysIn("gone/1", 2, 4, 6)}
	st, s := table(t, files...)
	for _, path := range []string{"data/2", "gone/1"} {
		at := list.Find(s.Files, path)
		for _, x := range []*store.Store{without(t, st, path), anew(t, st, path, "what"), anew(t, st, path, "")} {
			for _, key := range []int{0, 10} {
				wantRows(t, x, s, key, key, []api.Row{{Part: "eu", Key: key, Val: 1}})
				wantValues(t, x, s, key, 1)
			}
			wantRows(t, x, s, 0, 3, rowsOf("eu 0 1"))
			wantRows(t, x, s, 7, 10, rowsOf("eu 10 1"))
			wantRows(t, x, s, 7, 3, nil)
			for _, bounds := range [][2]int{{0, 4}, {4, 4}, {5, 5}, {6, 6}, {6, 9}, {0, 10}} {
				l, err := Rows(x, s, bounds[0], bounds[1])
				if f, ok := err.(*api.Fault); len(l) != 0 || !ok || f.At != at {
					t.Errorf("%s, from %d to %d: %v, %v", path, bounds[0], bounds[1], l, err)
				}
			}
		}
	}
	// It is what is known that tells, also where that is not so.
	s.Files[1].Lo = 5
	wantRows(t, st, s, 0, 3, rowsOf("eu 0 1"))
	wantRows(t, st, s, 4, 4, nil)
	wantError(t, st, s, 5, 1, api.ErrShape)
}

// P100: no store, ahead of all else; then what snap.Check says, with its own places, ahead of what is read.
func TestWrongSnaps(t *testing.T) {
	st, s := table(t, some()...)
	wantError(t, nil, s, 2, -1, api.ErrShape)
	wantError(t, nil, api.Snap{}, 2, -1, api.ErrShape)
	for _, c := range []struct {
		change func(s *api.Snap)
		at     int
		err    error
	}{
		{func(s *api.Snap) { s.ID = 0 }, -1, api.ErrBound},
		{func(s *api.Snap) { s.Seq = -1; s.Op = "" }, -1, api.ErrBound},
		{func(s *api.Snap) { s.Op = "what" }, -1, api.ErrKind},
		{func(s *api.Snap) { s.Files = make([]api.File, api.MaxFiles+1) }, -1, api.ErrFull},
		{func(s *api.Snap) { s.Files[4].Path = "data" }, 4, api.ErrName},
		{func(s *api.Snap) { s.Files[3].Part = "eu" }, 3, api.ErrKind},
		{func(s *api.Snap) { s.Files[5].N = 0 }, 5, api.ErrBound},
		{func(s *api.Snap) { s.Files[1], s.Files[2] = s.Files[2], s.Files[1] }, 2, api.ErrOrder},
		{func(s *api.Snap) { s.Seq = 4 }, 2, api.ErrOrder},
	} {
		x := s
		x.Files = slices.Clone(s.Files)
		c.change(&x)
		wantError(t, st, x, 2, c.at, c.err)
		wantError(t, store.New(), x, 2, c.at, c.err)
		wantError(t, nil, x, 2, -1, api.ErrShape)
		for _, bounds := range [][2]int{{5, 4}, {1000, 1000}, {math.MaxInt, math.MinInt}} {
			if l, err := Rows(st, x, bounds[0], bounds[1]); len(l) != 0 || !isFault(err, c.at, c.err) {
				t.Errorf("%v: %v, %#v", bounds, l, err)
			}
		}
	}
}

// whole text of a file, with the sum of its body, whether it is right or not.
func whole(head, body string) string {
	return fmt.Sprint(head, " ", crc32.ChecksumIEEE([]byte(body)), "\n", body)
}

// P100: each error of a file that is read, with the place of the file in the snap's list, not of a line, nor among those that are read.
func TestWrongFiles(t *testing.T) {
	st, s := table(t, rowsIn("data/1", 1, "eu 100 1"), rowsIn("data/2", 2, "eu 5 1", "eu 6 1"), keysIn("gone/1", 3, 100), keysIn("gone/7", 3, 5, 6))
	for at, path := range map[int]string{1: "data/2", 3: "gone/7"} {
		wantError(t, without(t, st, path), s, 5, at, api.ErrNone)
	}
	long := whole("data 41 5 6", strings.Repeat("eu 5 1\n", 40)+"eu 6 1\n")
	for _, c := range []struct {
		path, text string
		err        error
	}{
		{"data/2", "", api.ErrText},
		{"data/2", "x", api.ErrText},
		{"data/2", "gone 2 5 6 1804203418\n5\n6\n", api.ErrText},
		{"data/2", "data 2 5 6 7\neu 5 1\neu 6 1\n", api.ErrSum},
		{"data/2", whole("data 2 5 6", "eu 5 1\neu 6 1"), api.ErrText},
		{"data/2", whole("data 2 5 6", "eu 5 1\neu 6\n"), api.ErrText},
		{"data/2", whole("data 2 5 6", "eu 5 1\nEU 6 1\n"), api.ErrName},
		{"data/2", whole("data 2 5 6", "eu 5 1\neu 6 1073741825\n"), api.ErrBound},
		{"data/2", whole("data 2 5 6", "eu 6 1\neu 5 1\n"), api.ErrOrder},
		{"data/2", whole("data 3 5 6", "eu 5 1\neu 6 1\n"), api.ErrShape},
		{"data/2", whole("data 2 4 6", "eu 5 1\neu 6 1\n"), api.ErrShape},
		{"data/2", long, api.ErrFull},
		{"data/2", whole("data 0 0 0", ""), api.ErrBound},
		{"gone/7", "", api.ErrText},
		{"gone/7", whole("data 2 5 6", "eu 5 1\neu 6 1\n"), api.ErrText},
		{"gone/7", "gone 2 5 6 7\n5\n6\n", api.ErrSum},
		{"gone/7", whole("gone 2 5 6", "5\n6"), api.ErrText},
		{"gone/7", whole("gone 2 5 6", "5\n06\n"), api.ErrText},
		{"gone/7", whole("gone 2 5 6", "6\n5\n"), api.ErrOrder},
		{"gone/7", whole("gone 2 5 6", "5\n5\n6\n"), api.ErrOrder},
		{"gone/7", whole("gone 2 5 7", "5\n6\n"), api.ErrShape},
		{"gone/7", whole("gone 0 0 0", ""), api.ErrBound},
	} {
		at := list.Find(s.Files, c.path)
		wantError(t, anew(t, st, c.path, c.text), s, 5, at, c.err)
	}
}

// P100: a file that is right, but not the one that is known.
func TestOtherFiles(t *testing.T) {
	st, s := table(t, rowsIn("data/1", 1, "eu 100 1"), rowsIn("data/2", 2, "eu 5 1", "eu 7 1"), keysIn("gone/7", 3, 4, 8))
	for _, f := range []told{
		rowsIn("data/2", 2, "eu 5 1", "eu 5 1", "eu 7 1"),
		rowsIn("data/2", 2, "eu 6 1", "eu 7 1"),
		rowsIn("data/2", 2, "eu 4 1", "eu 7 1"),
		rowsIn("data/2", 2, "eu 5 1", "eu 6 1"),
		rowsIn("data/2", 2, "eu 5 1", "eu 8 1"),
		rowsIn("data/2", 2, "eu 5 1"),
		rowsIn("data/2", 2, "eu 100 1", "eu 101 1"),
		keysIn("gone/7", 3, 4, 5, 8),
		keysIn("gone/7", 3, 3, 8),
		keysIn("gone/7", 3, 5, 8),
		keysIn("gone/7", 3, 4, 7),
		keysIn("gone/7", 3, 4, 9),
		keysIn("gone/7", 3, 8),
	} {
		wantError(t, anew(t, st, f.path, f.text(t)), s, 6, list.Find(s.Files, f.path), api.ErrShape)
	}
	// What is not known of a file may be another: its rows' Parts and values, the keys between.
	wantRows(t, anew(t, st, "data/2", rowsIn("", 0, "us 5 9", "as 7 8").text(t)), s, 4, 8, rowsOf("as 7 8", "us 5 9"))
	wantCount(t, st, s, 3)
	wantCount(t, anew(t, st, "data/2", rowsIn("", 0, "us 7 9", "zz 5 8").text(t)), s, 3)
}

// P3, P100: of several wrong files the first one in the list, and of it the first error.
func TestFirstFile(t *testing.T) {
	st, s := table(t, some()...)
	wantError(t, store.New(), s, 2, 0, api.ErrNone)
	x := without(t, anew(t, anew(t, st, "data/4", ""), "gone/2", "x"), "data/1")
	wantError(t, x, s, 2, 0, api.ErrNone)
	put(t, x, "data/1", some()[0].text(t))
	wantError(t, x, s, 2, 1, api.ErrText)
	x = anew(t, x, "data/4", some()[1].text(t))
	wantError(t, x, s, 2, 3, api.ErrText)
	y := s
	y.Files = slices.Clone(s.Files)
	y.Files[1].N, y.Files[3].N = 40, 40
	wantError(t, st, y, 2, 1, api.ErrShape)
	wantError(t, anew(t, st, "data/4", whole("data 0 0 0", "")), y, 2, 1, api.ErrBound)
	wantError(t, without(t, st, "data/4"), y, 2, 1, api.ErrNone)
}

// P100: what is there is read without power, and with a Cut that waits.
func TestWithoutPower(t *testing.T) {
	st, s := table(t, some()...)
	if err := st.Cut(0); err != nil {
		t.Fatal(err)
	}
	wantCount(t, st, s, 6)
	if err := st.Put("x", "x"); err != api.ErrOff {
		t.Fatal(err)
	}
	wantCount(t, st, s, 6)
	wantValues(t, st, s, 2, 21, 99)
	if st.Power() {
		t.Error("power is there")
	}
}

// P3, P4: what is handed over is only read, up to its length; what is answered is nobody else's.
func TestOwnMemory(t *testing.T) {
	st, s := table(t, some()...)
	before, files := st.Copy(), slices.Clone(s.Files)
	spoil := api.File{Path: "data/1", N: -1}
	s.Files = append(slices.Grow(slices.Clone(s.Files), 5), spoil)[:len(files)]
	for range 3 {
		wantRows(t, st, s, -big, big, plainRows(some(), -big, big))
		wantValues(t, st, s, 2, 21, 99)
		l, err := Rows(st, s, -big, big)
		if err != nil {
			t.Fatal(err)
		}
		for i := range l[:cap(l)] {
			l[:cap(l)][i] = api.Row{Part: "spoilt"}
		}
		values, err := Find(st, s, 2)
		if err != nil {
			t.Fatal(err)
		}
		clear(values[:cap(values)])
	}
	if !store.Same(st, before) || !slices.Equal(s.Files, files) || s.Files[:len(files)+1][len(files)] != spoil {
		t.Error("something was changed")
	}
}

// manyFiles in any order of Seqs, with few keys, so that many of them meet.
func manyFiles(rnd *rand.Rand) []told {
	var files []told
	number := 0
	for range rnd.Intn(12) {
		number += 1 + rnd.Intn(9)
		f := told{path: fmt.Sprint("data/", number), seq: 1 + rnd.Intn(8)}
		for range 1 + rnd.Intn(api.MaxRows) {
			f.rows = append(f.rows, api.Row{Part: string("abc"[rnd.Intn(3)]), Key: rnd.Intn(50) - 25, Val: rnd.Intn(5) - 2})
		}
		files = append(files, f)
	}
	number = 0
	for range rnd.Intn(8) {
		number += 1 + rnd.Intn(9)
		f := told{path: fmt.Sprint("gone/", number), seq: 1 + rnd.Intn(8)}
		for range 1 + rnd.Intn(9) {
			f.keys = append(f.keys, rnd.Intn(50)-25)
		}
		files = append(files, f)
	}
	return files
}

// P100 to P102: rows of some keys are all rows, of these keys; and they are those that the plainest way has.
func TestSomeOfAll(t *testing.T) {
	rnd := rand.New(rand.NewSource(10))
	for range 60 {
		files := manyFiles(rnd)
		st, s := table(t, files...)
		all, err := Rows(st, s, math.MinInt, math.MaxInt)
		if err != nil || !slices.Equal(all, plainRows(files, -big, big)) {
			t.Fatal(files, all, err)
		}
		wantCount(t, st, s, len(all))
		for range 10 {
			lo, hi := rnd.Intn(60)-30, rnd.Intn(60)-30
			want := slices.DeleteFunc(slices.Clone(all), func(r api.Row) bool { return r.Key < lo || r.Key > hi })
			wantRows(t, st, s, lo, hi, want)
		}
		for key := -26; key <= 26; key++ {
			var values []int
			for _, r := range all {
				if r.Key == key {
					values = append(values, r.Val)
				}
			}
			slices.Sort(values)
			wantValues(t, st, s, key, values...)
		}
	}
}

// P2: the same is told time and again, whatever order a map is gone through.
func TestTimeAndAgain(t *testing.T) {
	files := manyFiles(rand.New(rand.NewSource(3)))
	st, s := table(t, files...)
	first, err := Rows(st, s, -big, big)
	for range 50 {
		l, again := Rows(st, s, -big, big)
		if !reflect.DeepEqual(l, first) || err != nil || again != nil {
			t.Fatal(l, again)
		}
	}
}

// P1: whatever is handed over, there is an answer.
func TestAnything(t *testing.T) {
	st, s := table(t, some()...)
	numbers := []int{math.MinInt, -big - 1, -big, -3, 0, 7, big, big + 1, math.MaxInt}
	snaps := []api.Snap{s, {}, snap.First(), {ID: 1, Op: "start", Files: make([]api.File, 3)}}
	for _, lo := range numbers {
		for _, hi := range numbers {
			for _, x := range snaps {
				for _, any := range []*store.Store{nil, {}, st} {
					Rows(any, x, lo, hi)
					Count(any, x)
					Find(any, x, lo)
				}
			}
		}
	}
}
