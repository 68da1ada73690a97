package lake

import (
	"fmt"
	"math"
	"strings"
	"testing"

	"deedbox/api"
	"deedbox/data"
	"deedbox/list"
	"deedbox/snap"
	"deedbox/store"
)

func openError(t *testing.T, st *store.Store, spec, wanted string) {
	t.Helper()
	k, err := Open(st, spec)
	if k != nil {
		t.Errorf("%s: a lake beside %v", wanted, err)
	}
	want(t, "Open", wrong(err), wanted)
}

// P140: a new table is a snap without files, and a head that has it.
func TestNew(t *testing.T) {
	st := store.New()
	if _, err := st.Next(7); err != nil {
		t.Fatal(err)
	}
	k := opened(t, st, "part")
	if k.Store() != st {
		t.Error("another store")
	}
	want(t, "names", names(k), "meta/2 snap/1")
	want(t, "head", st.Head(), "meta/2")
	want(t, "meta", text(t, st, "meta/2"), "meta 1\n")
	want(t, "snap", text(t, st, "snap/1"), "snap 1 0 0 0 0 start 0\n")
	want(t, "now", fmt.Sprint(k.Snaps(), k.Now()), "[1] {1 0 0 0 0 start []}")
	has(t, k, "")
	if st.Born("meta/2") != 7 || st.Born("snap/1") != 7 {
		t.Error("another day")
	}
	whole(t, k)
}

// P140: a new number is above all that stand behind a name's last slash, as a row's.
func TestNewNumbers(t *testing.T) {
	for there, head := range map[string]string{
		"":                  "meta/2",
		"a/7":               "meta/9",
		"a/7 b/30 c/8":      "meta/32",
		"data/10 gone/9":    "meta/12",
		"a/b/9":             "meta/11",
		"9/b":               "meta/2",
		"9/2":               "meta/4",
		"9":                 "meta/2", // nothing is behind a slash
		"plain":             "meta/2",
		"a/07":              "meta/2",
		"a/0":               "meta/2",
		"a/00":              "meta/2",
		"a/5x":              "meta/2",
		"a/":                "meta/2",
		"/":                 "meta/2",
		"/4":                "meta/6",
		"a/5/":              "meta/2",
		"a/99999999999x":    "meta/2",
		"a/123456789012":    "meta/2", // too long for a number
		"a/1073741823":      "meta/1073741825",
		"a/1073741824":      "bound",
		"a/99999999999":     "bound",
		"a/4 b/99999999999": "bound",
	} {
		st := store.New()
		for _, name := range strings.Fields(there) {
			putAll(t, st, name, "x")
		}
		before := st.Copy()
		k, err := Open(st, "part")
		if err != nil {
			want(t, there, wrong(err), head)
			if k != nil || !store.Same(before, st) {
				t.Error(there, "the store has changed")
			}
			continue
		}
		want(t, there, st.Head(), head)
		want(t, there, fmt.Sprint("meta/", k.Now().ID+1), head)
		want(t, there, fmt.Sprint(k.Snaps()), fmt.Sprint([]int{k.Now().ID}))
		whole(t, k)
	}
}

// P140: each object has a number of its own, pieces of objects too, and those that a lake has not put.
func TestNumbersGoOn(t *testing.T) {
	k := fresh(t, "part")
	putAll(t, k.Store(), "note/20", "x")
	says(t, "2")(k.Append(1, rowsOf("b:1:1 a:2:2")))
	want(t, "names", names(k), "data/21 data/22 meta/2 meta/24 note/20 snap/1 snap/23")
	right(t, k.Store().Cut(3))
	says(t, "off")(k.Append(2, rowsOf("c:1:1")))
	k = opened(t, k.Store(), "part")
	says(t, "1")(k.Delete(2, []int{1}))
	want(t, "names", names(k), "data/21 data/22 data/25 gone/26 meta/2 meta/24 meta/28 note/20 snap/1 snap/23 snap/27")
	want(t, "piece", text(t, k.Store(), "data/25"), "dat")
	has(t, k, "a:2:2")
	// What is dropped gives its number back: nothing needs it.
	putAll(t, k.Store(), "note/99", "x")
	right(t, k.Store().Drop("note/99"))
	says(t, "0")(k.Append(3, nil))
	want(t, "snaps", fmt.Sprint(k.Snaps()), "[1 23 27 29]")
}

// P140: numbers that are too great for a file, or a snap, are told by the change.
func TestGreatNumbers(t *testing.T) {
	k := fresh(t, "part")
	putAll(t, k.Store(), "x/1073741822", "x")
	sameTable(t, k, func() {
		says(t, "name")(k.Append(1, rowsOf("a:1:1 b:1:1 c:1:1")))
	})
	// All objects come ahead of what the change says.
	want(t, "names", names(k), "data/1073741823 data/1073741824 data/1073741825 meta/2 snap/1 x/1073741822")
	for _, name := range []string{"data/1073741824", "data/1073741825"} {
		right(t, k.Store().Drop(name))
	}
	sameTable(t, k, func() {
		says(t, "bound")(k.Append(1, rowsOf("a:1:1")))
		says(t, "name")(k.Delete(1, []int{4}))
		says(t, "bound")(k.Append(1, nil))
	})
	says(t, "4")(k.Clean(0))
	says(t, "1")(k.Append(1, rowsOf("a:1:1")))
	want(t, "files", files(k), "data/3 a 1 1")
}

// P140: errors in their order, and what they leave.
func TestOpenErrors(t *testing.T) {
	openError(t, nil, "part", "shape")
	openError(t, nil, "x", "shape")
	for spec, wanted := range map[string]string{"": "text", "x": "text", "parts": "text", "bucket": "text", "bucket 0": "bound", "trunc 1001": "bound", "trunc -1": "text", "bucket 01": "text", "trunc 1234567890": "text"} {
		st := store.New()
		right(t, st.Cut(0), st.Swap("", ""))
		if err := st.Put("a", "x"); err == nil || st.Power() {
			t.Fatal(err)
		}
		before := st.Copy()
		openError(t, st, spec, wanted)
		if !store.Same(before, st) || st.Power() {
			t.Error(spec, "the store has changed")
		}
	}
	for _, spec := range []string{"part", "bucket 1", "bucket 1000", "trunc 1", "trunc 1000"} {
		whole(t, fresh(t, spec))
	}
}

// P140: power is on, and no Cut waits, whether a table is there or not.
func TestOpenPower(t *testing.T) {
	for cut := range 60 {
		st := store.New()
		right(t, st.Cut(cut))
		k := opened(t, st, "part")
		if !st.Power() {
			t.Error(cut, "no power")
		}
		right(t, st.Cut(cut))
		k = opened(t, st, "part")
		says(t, "1")(k.Append(1, rowsOf("a:1:1")))
		right(t, st.Cut(0))
		says(t, "off")(k.Append(2, rowsOf("a:1:1")))
		k = opened(t, st, "part")
		if !st.Power() {
			t.Error(cut, "no power")
		}
		says(t, "1")(k.Append(2, rowsOf("a:1:1")))
		has(t, k, "a:1:1 a:1:1")
	}
}

// P140: the store's errors, where a table is begun.
func TestOpenFull(t *testing.T) {
	for there := api.MaxObjects - 3; there <= api.MaxObjects; there++ {
		st := store.New()
		for i := range there {
			putAll(t, st, fmt.Sprint("a", i), "")
		}
		if there <= api.MaxObjects-2 {
			whole(t, opened(t, st, "part"))
			continue
		}
		openError(t, st, "part", "full")
		want(t, "head", st.Head(), "")
		right(t, st.Drop("a0"), st.Drop("a1"))
		k := opened(t, st, "part")
		has(t, k, "")
		whole(t, k)
	}
	st := store.New()
	for i := range api.MaxBytes / api.MaxText {
		putAll(t, st, fmt.Sprint("a", i), strings.Repeat("x", api.MaxText))
	}
	putAll(t, st, "b", strings.Repeat("x", api.MaxBytes%api.MaxText-5))
	openError(t, st, "part", "full")
	want(t, "head", st.Head(), "")
}

// P140: a head that means nothing.
func TestWrongHeads(t *testing.T) {
	for _, head := range []string{"x", "5", "meta", "meta/", "meta/x", "meta/01", "meta/-1", "meta/1 ", " meta/1", "meta/1/2", "meta/9", "snap/1", "a/meta/1", "META/1", "meta/123456789012", "meta/1\n"} {
		st := store.New()
		putAll(t, st, "meta/1", "meta 1\n", "snap/1", "snap 1 0 0 0 0 start 0\n", "x", "meta 1\n", "5", "meta 1\n", "meta", "meta 1\n", "meta/", "meta 1\n", "meta/x", "meta 1\n", "meta/01", "meta 1\n", "meta/1/2", "meta 1\n", "a/meta/1", "meta 1\n", "meta/123456", "meta 1\n")
		right(t, st.Swap("", head))
		before := st.Copy()
		openError(t, st, "part", "text")
		if !store.Same(before, st) {
			t.Error(head, "the store has changed")
		}
		right(t, st.Swap(head, "meta/1"))
		whole(t, opened(t, st, "part"))
	}
}

// snapText of numbers that may be wrong, and of any text of files.
func snapText(numbers, body string) string {
	return fmt.Sprint("snap ", numbers, " ", data.Sum(body), "\n", body)
}

// P140: errors of what is read are bare.
func TestWrongObjects(t *testing.T) {
	const file3, file4 = "data/3 a 1 1 1 1\n", "data/4 a 1 1 1 1\n"
	for _, c := range []struct{ meta, snap, want string }{
		{"", "", "text"}, {"meta", "", "text"}, {"meta 2", "", "text"}, {"meta x\n", "", "text"}, {"meta  2\n", "", "text"},
		{"meta\n", "", "none"}, {"meta 0\n", "", "bound"}, {"meta 2 1073741825\n", "", "bound"}, {"meta 2 2\n", "", "order"}, {"meta 1 3 2\n", "", "order"},
		{"meta 1" + strings.Repeat(" 2", 40) + "\n", "", "full"},
		{"meta 3\n", "", "none"}, {"meta 2 3\n", "", "none"},
		{"meta 2\n", "", "text"}, {"meta 2\n", "snap 2 0 0 0 0 start 0", "text"}, {"meta 2\n", "snap 2 0 0 0 0 start 7\n", "sum"}, {"meta 2\n", "snap 2 0 0 0 0 start 0\n" + file3, "sum"},
		{"meta 2\n", snapText("2 0 1 0 0 append", "data/3\n"), "text"},
		{"meta 2\n", snapText("2 0 1 0 0 append", file3+"data/4"), "text"},
		{"meta 2\n", snapText("2 0 1 0 0 append", file4+file3), "order"},
		{"meta 2\n", snapText("2 0 0 0 0 append", file3), "order"},
		{"meta 2\n", snapText("2 0 1 0 0 append", "data/0 a 1 1 1 1\n"), "name"},
		{"meta 2\n", snapText("2 0 1 0 0 append", "gone/3 a 1 1 1 1\n"), "kind"},
		{"meta 2\n", snapText("2 0 1 0 0 append", "data/3 a 41 1 1 1\n"), "bound"},
		{"meta 2\n", snapText("2 2 1 0 0 append", file3), "bound"},
		{"meta 2\n", snapText("2 0 1 0 0 other", file3), "kind"},
		{"meta 2\n", snapText("2 0 1 0 0 append", strings.Repeat("x\n", 61)), "full"},
		{"meta 2\n", strings.Repeat("x", api.MaxText), "text"},
	} {
		st := store.New()
		putAll(t, st, "meta/5", c.meta, "snap/2", c.snap)
		right(t, st.Swap("", "meta/5"))
		before := st.Copy()
		k, err := Open(st, "part")
		if k != nil {
			t.Error(c, "a lake")
		}
		want(t, fmt.Sprint(c), wrong(err), c.want)
		if !store.Same(before, st) {
			t.Error(c, "the store has changed")
		}
	}
}

// P140: a table that was written by hand is a table.
func TestByHand(t *testing.T) {
	st := store.New()
	rows, err := data.Make(rowsOf("a:1:1 a:2:2"))
	right(t, err)
	l, err := list.Read("data/3 a 2 1 2 4\n")
	right(t, err)
	s, err := snap.Text(api.Snap{ID: 9, Parent: 2, Seq: 5, Day: 3, Index: 70, Op: "delete", Files: l})
	right(t, err)
	putAll(t, st, "data/3", rows, "snap/9", s, "snap/2", "snap 2 0 0 0 0 start 0\n", "meta/1", "meta 2 9\n")
	right(t, st.Swap("", "meta/1"))
	k := opened(t, st, "part")
	want(t, "now", fmt.Sprint(k.Snaps(), k.Now()), "[2 9] {9 2 5 3 70 delete [{data/3 a 2 1 2 4}]}")
	has(t, k, "a:1:1 a:2:2")
	says(t, "0")(k.Append(70, rowsOf("a:3:3")))
	says(t, "1")(k.Append(71, rowsOf("a:3:3")))
	want(t, "now", fmt.Sprint(k.Snaps(), k.Now()), "[2 9 11] {11 9 6 0 71 append [{data/3 a 2 1 2 4} {data/10 a 1 3 3 6}]}")
	whole(t, k)
}

// P140: to open again changes nothing, and has what is there.
func TestOpenAgain(t *testing.T) {
	k := fresh(t, "trunc 10")
	for _, step := range []func() (int, error){
		func() (int, error) { return k.Append(1, rowsOf("a:1:1 a:11:1 a:-5:1")) },
		func() (int, error) { return k.Append(2, rowsOf("a:2:1")) },
		func() (int, error) { return k.Delete(3, []int{1}) },
		func() (int, error) { return k.Pack(41) },
		func() (int, error) { return k.Expire(0, 2) },
		func() (int, error) { return k.Clean(0) },
	} {
		if _, err := step(); err != nil {
			t.Fatal(err)
		}
		before := k.Store().Copy()
		x := opened(t, k.Store(), "trunc 10")
		if !store.Same(before, k.Store()) {
			t.Error("the store has changed")
		}
		want(t, "again", fmt.Sprint(x.head, x.ids, x.now), fmt.Sprint(k.head, k.ids, k.now))
		whole(t, k)
	}
	// Another spec is for what comes: what is there stays in its files.
	x := opened(t, k.Store(), "part")
	says(t, "1")(x.Append(4, rowsOf("eu:3:3")))
	has(t, x, "a:-5:1 a:2:1 a:11:1 eu:3:3")
}

// P4: what is answered is new memory, and what is handed over is not kept.
func TestMemory(t *testing.T) {
	k := fresh(t, "part")
	l := make([]api.Row, 0, 9)
	l = append(l, rowsOf("b:2:2 a:1:1")...)
	says(t, "2")(k.Append(1, l))
	want(t, "argument", wordsOf(l), "b:2:2 a:1:1")
	want(t, "behind it", fmt.Sprint(l[:9][2]), "{ 0 0}")
	l[0], l[1] = api.Row{}, api.Row{}
	keys := []int{9, 3, 9}
	says(t, "2")(k.Delete(2, keys))
	want(t, "argument", fmt.Sprint(keys), "[9 3 9]")
	keys[0], keys[1] = 1, 2
	before := fmt.Sprint(k.head, k.ids, k.now)
	ids, now := k.Snaps(), k.Now()
	clear(ids)
	clear(now.Files)
	_ = append(k.Snaps()[:1], 99)
	_ = append(k.Now().Files[:1], api.File{})
	rows, err := k.Rows(-big, big)
	right(t, err)
	clear(rows)
	want(t, "lake", fmt.Sprint(k.head, k.ids, k.now), before)
	has(t, k, "a:1:1 b:2:2")
	whole(t, k)
	// A lake does not show in another one's answers.
	x := opened(t, k.Store(), "part")
	clear(x.Snaps())
	clear(x.Now().Files)
	want(t, "lake", fmt.Sprint(k.head, k.ids, k.now), before)
}

// P1: what Open answers beside an error has nothing.
func TestNil(t *testing.T) {
	none, err := Open(nil, "")
	want(t, "Open", wrong(err), "shape")
	for _, k := range []*Lake{none, {}} {
		if k.Store() != nil || k.Snaps() != nil || k.Now().ID != 0 {
			t.Error("a nil lake has something")
		}
		says(t, "shape")(k.Append(1, nil))
		says(t, "shape")(k.Delete(1, nil))
		says(t, "shape")(k.Pack(1))
		says(t, "shape")(k.Expire(1, 1))
		says(t, "shape")(k.Clean(1))
		says(t, "shape")(k.Then(1))
		want(t, "Rows", rowsTold(k.Rows(0, math.MaxInt)), "shape")
		want(t, "At", rowsTold(k.At(1, 0, math.MaxInt)), "shape")
	}
}
