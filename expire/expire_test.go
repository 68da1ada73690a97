package expire

import (
	"errors"
	"fmt"
	"math"
	"math/rand"
	"slices"
	"strconv"
	"strings"
	"testing"

	"deedbox/api"
	"deedbox/meta"
	"deedbox/snap"
	"deedbox/store"
)

const big = api.MaxNum

// snapsOf words, each `ID` or `ID:DAY`.
func snapsOf(words string) []api.Snap {
	var l []api.Snap
	for _, word := range strings.Fields(words) {
		id, day, _ := strings.Cut(word, ":")
		var s api.Snap
		s.ID, _ = strconv.Atoi(id)
		s.Day, _ = strconv.Atoi(day)
		l = append(l, s)
	}
	return l
}

// with files, of these paths.
func with(id int, paths ...string) api.Snap {
	s := api.Snap{ID: id}
	for _, path := range paths {
		s.Files = append(s.Files, api.File{Path: path})
	}
	return s
}

func wantKeep(t *testing.T, l []api.Snap, day, age, count int, want string) {
	t.Helper()
	if got := fmt.Sprint(Keep(l, day, age, count)); got != want {
		t.Errorf("Keep(%v, %d, %d, %d): %s, not %s", l, day, age, count, got, want)
	}
}

// P130: the last ones, by a count that may be any number.
func TestKeepCount(t *testing.T) {
	l := snapsOf("2 3 5 8")
	for count, want := range map[int]string{
		0: "[8]", 1: "[8]", 2: "[5 8]", 3: "[3 5 8]", 4: "[2 3 5 8]", 5: "[2 3 5 8]",
		-1: "[8]", -4: "[8]", -5: "[8]", math.MinInt: "[8]", math.MinInt + 1: "[8]", math.MinInt + 4: "[8]",
		big: "[2 3 5 8]", math.MaxInt: "[2 3 5 8]", math.MaxInt - 4: "[2 3 5 8]",
	} {
		wantKeep(t, l, 100, 0, count, want)
		wantKeep(t, nil, 100, 0, count, "[]")
		wantKeep(t, []api.Snap{}, 0, 100, count, "[]")
		wantKeep(t, l[:1], 100, 0, count, "[2]")
	}
}

// P130: those that are not older than that, the day itself too.
func TestKeepAge(t *testing.T) {
	l := snapsOf("2 3:4 5:4 8:7 9:10")
	for _, c := range []struct {
		day, age int
		want     string
	}{
		{10, 0, "[9]"}, {10, 2, "[9]"}, {10, 3, "[8 9]"}, {10, 5, "[8 9]"}, {10, 6, "[3 5 8 9]"}, {10, 9, "[3 5 8 9]"}, {10, 10, "[2 3 5 8 9]"}, {10, 11, "[2 3 5 8 9]"},
		{7, 0, "[8 9]"}, {8, 0, "[9]"}, {4, 0, "[3 5 8 9]"}, {5, 0, "[8 9]"}, {0, 0, "[2 3 5 8 9]"}, {1, 0, "[3 5 8 9]"}, {1, 1, "[2 3 5 8 9]"},
		{-3, 0, "[2 3 5 8 9]"}, {-3, -3, "[2 3 5 8 9]"}, {-3, -4, "[3 5 8 9]"}, {0, -7, "[8 9]"}, {0, -8, "[9]"}, {10, -1, "[9]"},
		{big, 0, "[9]"}, {big, big, "[2 3 5 8 9]"}, {big, big - 1, "[3 5 8 9]"}, {big, big - 10, "[9]"}, {big, -big, "[9]"},
		{-big, -big, "[2 3 5 8 9]"}, {-big, -big + 1, "[2 3 5 8 9]"}, {-big + 1, -big, "[3 5 8 9]"}, {-big, big, "[2 3 5 8 9]"}, {0, big, "[2 3 5 8 9]"}, {0, -big, "[9]"}, {-big, 0, "[2 3 5 8 9]"},
	} {
		wantKeep(t, l, c.day, c.age, 0, c.want)
		wantKeep(t, l, c.day, c.age, -7, c.want)
		wantKeep(t, nil, c.day, c.age, 3, "[]")
	}
}

// P130: by either of the two, in the list's order: days, and IDs, need not rise.
func TestKeepEither(t *testing.T) {
	l := snapsOf("7:9 3:1 4:9 1:2 6:3 5:1")
	for _, c := range []struct {
		least, count int
		want         string
	}{
		{9, 0, "[7 4 5]"}, {10, 0, "[5]"}, {9, 2, "[7 4 6 5]"}, {9, 4, "[7 4 1 6 5]"}, {3, 1, "[7 4 6 5]"}, {2, 0, "[7 4 1 6 5]"}, {1, 0, "[7 3 4 1 6 5]"}, {10, 5, "[3 4 1 6 5]"}, {10, 6, "[7 3 4 1 6 5]"},
	} {
		wantKeep(t, l, c.least, 0, c.count, c.want)
		wantKeep(t, l, c.least+100, 100, c.count, c.want)
		wantKeep(t, l, c.least-100, -100, c.count, c.want)
	}
	// One that stands twice goes by each of its places.
	wantKeep(t, snapsOf("4:1 4:9 4:1 2:1 4:0"), 9, 0, 0, "[4 4]")
	wantKeep(t, snapsOf("4:1 4:9 4:1 2:1 4:0"), 9, 0, 2, "[4 2 4]")
}

// P130: a day, or an age, that is too far off: the last one alone, whatever the count.
func TestKeepFarOff(t *testing.T) {
	l := snapsOf("2:5 3:5 5:5")
	for _, far := range []int{big + 1, -big - 1, math.MaxInt, math.MinInt, math.MaxInt - 5, math.MinInt + 5} {
		for _, n := range []int{0, 5, big, -big, far, math.MaxInt, math.MinInt} {
			for _, count := range []int{0, 2, 99, math.MaxInt, math.MinInt} {
				wantKeep(t, l, far, n, count, "[5]")
				wantKeep(t, l, n, far, count, "[5]")
				wantKeep(t, nil, far, n, count, "[]")
			}
		}
	}
}

// P1, P130: snaps need not be right: their days and IDs may be any numbers.
func TestKeepWrongSnaps(t *testing.T) {
	l := []api.Snap{{ID: math.MinInt, Day: math.MinInt}, {ID: -1, Day: -2 * big}, {ID: 0, Day: -2*big - 1}, {ID: math.MaxInt, Day: math.MaxInt}, {Day: 2 * big}, {ID: 3, Day: -1}}
	wantKeep(t, l, 0, 0, 0, fmt.Sprint([]int{math.MaxInt, 0, 3}))
	wantKeep(t, l, -big, big, 0, fmt.Sprint([]int{-1, math.MaxInt, 0, 3}))
	wantKeep(t, l, big, -big, 0, fmt.Sprint([]int{math.MaxInt, 0, 3}))
	wantKeep(t, l, big, -big, 99, fmt.Sprint([]int{math.MinInt, -1, 0, math.MaxInt, 0, 3}))
}

func wantReach(t *testing.T, want string, l ...api.Snap) {
	t.Helper()
	if got := strings.Join(Reach(l), " "); got != want {
		t.Errorf("Reach(%v): %q, not %q", l, got, want)
	}
}

// P130: names rise by their bytes, each once.
func TestReach(t *testing.T) {
	wantReach(t, "")
	wantReach(t, "snap/7", with(7))
	wantReach(t, "data/1 snap/7", with(7, "data/1"))
	wantReach(t, "data/1 data/10 data/2 gone/1 gone/10 gone/3 snap/1 snap/10 snap/9", with(9, "data/1", "data/2", "gone/3"), with(10, "data/2", "data/10", "gone/1", "gone/3"), with(1, "gone/10"))
	wantReach(t, "data/4 snap/1 snap/2 snap/3", with(1, "data/4"), with(2, "data/4"), with(3, "data/4"))
	wantReach(t, "data/4 gone/4 snap/1", with(1, "data/4"), with(1, "gone/4"), with(1))
	if l := Reach([]api.Snap{}); len(l) != 0 {
		t.Error(l)
	}
}

// P1, P130: what is told is named, right or not; a path that is a snap's name is that name.
func TestReachWrongSnaps(t *testing.T) {
	wantReach(t, "snap/-5 snap/0 snap/9223372036854775807 z", with(-5, "z"), with(math.MaxInt), with(0, "z"))
	wantReach(t, "A \xff data/01 snap/-9223372036854775808 snap/3 snap/4 \xfe \xff", with(math.MinInt, "snap/3", "\xff", "data/01"), with(3, "A \xff"), with(4, "\xfe"))
	if l := Reach([]api.Snap{with(2, "", "")}); !slices.Equal(l, []string{"", "snap/2"}) {
		t.Errorf("%q", l)
	}
}

// P130: as many snaps as there may be, with as many files.
func TestReachMost(t *testing.T) {
	var l []api.Snap
	for i := range api.MaxSnaps {
		s := api.Snap{ID: i + 1}
		for j := range api.MaxFiles {
			s.Files = append(s.Files, api.File{Path: "data/" + strconv.Itoa(i*api.MaxFiles/2+j+1)})
		}
		l = append(l, s)
	}
	names := Reach(l)
	if want := api.MaxSnaps + (api.MaxSnaps+1)*api.MaxFiles/2; len(names) != want || !rises(names) {
		t.Error(len(names), want)
	}
}

// rises: is each text above the one ahead?
func rises(l []string) bool {
	for i := 1; i < len(l); i++ {
		if l[i-1] >= l[i] {
			return false
		}
	}
	return true
}

// storeOf words, each `NAME:DAY`, by their days; then the day is today.
func storeOf(t *testing.T, words string, today int) *store.Store {
	t.Helper()
	st := store.New()
	for _, word := range strings.Fields(words) {
		name, day, _ := strings.Cut(word, ":")
		n, err := strconv.Atoi(day)
		_, err2 := st.Next(n - st.Day())
		right(t, err, err2, st.Put(name, "x"))
	}
	_, err := st.Next(today - st.Day())
	right(t, err)
	return st
}

func right(t *testing.T, errs ...error) {
	t.Helper()
	if err := errors.Join(errs...); err != nil {
		t.Fatal(err)
	}
}

// wantOrphans: they are told, and nothing is changed.
func wantOrphans(t *testing.T, st *store.Store, needed string, age int, want string) {
	t.Helper()
	before := st.Copy()
	if got := strings.Join(Orphans(st, strings.Fields(needed), age), " "); got != want {
		t.Errorf("Orphans(%v, %s, %d): %q, not %q", st.Names(), needed, age, got, want)
	}
	if !store.Same(st, before) {
		t.Error("the store was changed")
	}
}

// P131: those that were put at least so many days ago, the day itself too.
func TestOrphansAge(t *testing.T) {
	st := storeOf(t, "meta/1:0 data/10:3 data/9:3 snap/2:7 b:10 a:10", 10)
	for age, want := range map[int]string{
		0: "a b data/10 data/9 meta/1 snap/2", 1: "data/10 data/9 meta/1 snap/2", 3: "data/10 data/9 meta/1 snap/2", 4: "data/10 data/9 meta/1", 7: "data/10 data/9 meta/1", 8: "meta/1", 10: "meta/1", 11: "",
		-1: "a b data/10 data/9 meta/1 snap/2", -big: "a b data/10 data/9 meta/1 snap/2", math.MinInt: "a b data/10 data/9 meta/1 snap/2", big: "", math.MaxInt: "",
	} {
		wantOrphans(t, st, "", age, want)
	}
	st = storeOf(t, "a:0 b:1 c:100000", api.MaxDay)
	for age, want := range map[int]string{0: "a b c", 1: "a b", api.MaxDay - 1: "a b", api.MaxDay: "a", api.MaxDay + 1: ""} {
		wantOrphans(t, st, "", age, want)
	}
}

// P131: those that are needed are none, by their whole names, in whatever order these are told, and how often.
func TestOrphansNeeded(t *testing.T) {
	st := storeOf(t, "data/1:0 data/10:0 data/2:0 gone/1:1 snap/1:2 meta/1:2", 4)
	for _, c := range []struct {
		needed string
		age    int
		want   string
	}{
		{"", 0, "data/1 data/10 data/2 gone/1 meta/1 snap/1"},
		{"data/1", 0, "data/10 data/2 gone/1 meta/1 snap/1"},
		{"data/10", 0, "data/1 data/2 gone/1 meta/1 snap/1"},
		{"snap/1 data/2 data/1", 0, "data/10 gone/1 meta/1"},
		{"snap/1 data/2 snap/1 data/1 data/1 data/2", 0, "data/10 gone/1 meta/1"},
		{"snap/1 data/2 snap/1 data/1 data/1 data/2", 3, "data/10 gone/1"},
		{"snap/1 data/2 snap/1 data/1 data/1 data/2", 4, "data/10"},
		{"zz data/ data data/3 1 gone/10 DATA/1 data/01 \xff", 0, "data/1 data/10 data/2 gone/1 meta/1 snap/1"},
		{"meta/1 snap/1 gone/1 data/2 data/10 data/1", 0, ""},
		{"meta/1 snap/1 gone/1 data/2 data/10 data/1", math.MinInt, ""},
	} {
		wantOrphans(t, st, c.needed, c.age, c.want)
	}
	if l := Orphans(st, []string{"", "snap/1", ""}, 3); !slices.Equal(l, []string{"data/1", "data/10", "data/2", "gone/1"}) {
		t.Error(l)
	}
}

// P131: no store, and one without objects.
func TestOrphansNone(t *testing.T) {
	for _, st := range []*store.Store{nil, store.New(), {}} {
		for _, needed := range [][]string{nil, {}, {"a"}} {
			for _, age := range []int{0, 1, -1, math.MinInt, math.MaxInt} {
				if l := Orphans(st, needed, age); len(l) != 0 {
					t.Error(l)
				}
			}
		}
	}
}

// P131: an object that is put anew is as young as that; a piece is an object; the head, and power that is off, change nothing of it.
func TestOrphansOfPower(t *testing.T) {
	st := storeOf(t, "a:0 b:0 c:2", 5)
	right(t, st.Drop("b"), st.Put("b", "y"), st.Swap("", "a"), st.Cut(1))
	if err := st.Put("d", "xyz"); err != api.ErrOff {
		t.Fatal(err)
	}
	wantOrphans(t, st, "", 0, "a b c d")
	wantOrphans(t, st, "", 1, "a c")
	wantOrphans(t, st, "c", 1, "a")
	_, err := st.Next(1)
	right(t, err)
	wantOrphans(t, st, "c", 1, "a b d")
}

// P131: as many objects as there may be.
func TestOrphansMost(t *testing.T) {
	st := store.New()
	var needed []string
	for i := range api.MaxObjects {
		name := "data/" + strconv.Itoa(i+1)
		right(t, st.Put(name, ""))
		if i%2 == 1 {
			needed = append(needed, name)
		}
	}
	l := Orphans(st, needed, 0)
	if len(l) != api.MaxObjects/2 || !rises(l) {
		t.Error(l)
	}
	for _, name := range l {
		if slices.Contains(needed, name) {
			t.Error(name)
		}
	}
}

// P3, P4: what is handed over is only read, what lies behind it neither read nor written; what is answered is new memory.
func TestMemory(t *testing.T) {
	all := []api.Snap{with(5, "gone/2", "data/1", "data/9"), with(3, "data/1"), with(4, "data/7")}
	all[0].Files = all[0].Files[:2]
	ids, names := Keep(all[:2], 0, 0, 0), Reach(all[:2])
	if fmt.Sprint(ids, names) != "[5 3] [data/1 gone/2 snap/3 snap/5]" || all[1].ID != 3 || all[2].ID != 4 || all[0].Files[0].Path != "gone/2" || all[0].Files[:3][2].Path != "data/9" {
		t.Fatal(ids, names, all)
	}
	clear(all[0].Files)
	clear(all)
	if fmt.Sprint(ids, names) != "[5 3] [data/1 gone/2 snap/3 snap/5]" {
		t.Error("an answer hangs on what was given")
	}
	st := storeOf(t, "a:0 b:0 c:0 d:0", 1)
	needed := []string{"d", "b", "a", "c"}
	l := Orphans(st, needed[:2], 0)
	if fmt.Sprint(l, needed) != "[a c] [d b a c]" {
		t.Fatal(l, needed)
	}
	clear(needed)
	if fmt.Sprint(l) != "[a c]" {
		t.Error("an answer hangs on what was given")
	}
	clear(l[:cap(l)])
	wantOrphans(t, st, "d b", 0, "a c")
}

// plainKeep is the plainest way: each place asked for each reason.
func plainKeep(l []api.Snap, day, age, count int) []int {
	var ids []int
	for i, s := range l {
		last := i == len(l)-1
		among, young := len(l)-i <= count, s.Day+age >= day
		if day > big || day < -big || age > big || age < -big {
			among, young = false, false
		}
		if last || among || young {
			ids = append(ids, s.ID)
		}
	}
	return ids
}

// P130, P132: any snaps: the last one is kept, and all is as the plainest way has it; a day later no more of them are kept.
func TestAnyKeep(t *testing.T) {
	x := rand.New(rand.NewSource(130))
	for range 5000 {
		var l []api.Snap
		for i := range x.Intn(api.MaxSnaps + 1) {
			l = append(l, api.Snap{ID: 2*i + 1, Day: x.Intn(30)})
		}
		day, age, count := x.Intn(60)-15, x.Intn(60)-15, x.Intn(60)-10
		if x.Intn(9) == 0 {
			age += big
		}
		ids := Keep(l, day, age, count)
		if !slices.Equal(ids, plainKeep(l, day, age, count)) {
			t.Fatal(l, day, age, count, ids)
		}
		if len(l) > 0 && meta.Now(ids) != l[len(l)-1].ID || len(Keep(l, day+1, age, count)) > len(ids) {
			t.Fatal(l, day, age, count, ids)
		}
	}
}

// randomTable of snaps, with all that they need in a store, and more than that.
func randomTable(t *testing.T, x *rand.Rand) ([]api.Snap, *store.Store) {
	t.Helper()
	st := store.New()
	s, l := snap.First(), []api.Snap{}
	for i := range x.Intn(12) + 1 {
		path := "data/" + strconv.Itoa(3*i+1)
		f := api.File{Path: path, Part: "eu", N: 1, Seq: i + 1}
		s = api.Snap{ID: 3*i + 2, Parent: s.ID, Seq: i + 1, Day: st.Day(), Op: "append", Files: append(slices.Clone(s.Files), f)}
		if x.Intn(3) == 0 {
			s.Op, s.Files = "rewrite", []api.File{f}
		}
		text, err := snap.Text(s)
		right(t, err, st.Put(path, "x"), st.Put("snap/"+strconv.Itoa(s.ID), text), st.Put("meta/"+strconv.Itoa(3*i+3), "x"))
		_, err = st.Next(x.Intn(4))
		right(t, err)
		l = append(l, s)
	}
	return l, st
}

// P131, P132: of any table: once its old snaps are gone, and what is needed by none, those that are kept can be read with all their files; no orphan is left, and none of what is dropped was needed, or young.
func TestAnyOrphans(t *testing.T) {
	x := rand.New(rand.NewSource(131))
	dropped := 0
	for range 500 {
		l, st := randomTable(t, x)
		ids, age := Keep(l, st.Day(), x.Intn(20), x.Intn(5)), x.Intn(9)
		kept := slices.DeleteFunc(slices.Clone(l), func(s api.Snap) bool { return !slices.Contains(ids, s.ID) })
		needed := Reach(kept)
		x.Shuffle(len(needed), func(i, j int) { needed[i], needed[j] = needed[j], needed[i] })
		orphans, all := Orphans(st, needed, age), st.Names()
		for _, name := range all {
			may := !slices.Contains(needed, name) && st.Day()-st.Born(name) >= age
			if slices.Contains(orphans, name) != may {
				t.Fatal(name, needed, orphans)
			}
		}
		for _, name := range orphans {
			right(t, st.Drop(name))
			dropped++
		}
		for _, s := range kept {
			wantWhole(t, st, s)
		}
		if left := Orphans(st, needed, age); len(left) != 0 || !rises(orphans) {
			t.Fatal(orphans, left)
		}
	}
	if dropped < 1000 {
		t.Error("too little was done:", dropped)
	}
}

// wantWhole: a store has a snap, and all of its files.
func wantWhole(t *testing.T, st *store.Store, s api.Snap) {
	t.Helper()
	text, err := st.Get("snap/" + strconv.Itoa(s.ID))
	got, err2 := snap.Read(text)
	right(t, err, err2)
	if fmt.Sprint(got) != fmt.Sprint(s) {
		t.Fatal(got, s)
	}
	for _, f := range s.Files {
		if st.Born(f.Path) < 0 {
			t.Fatal(s.ID, f.Path)
		}
	}
}

// P1, P132: whatever is handed over: the last one is kept; names rise, and what is needed is no orphan.
func FuzzExpire(f *testing.F) {
	f.Add("2:3 5:9", "data/1 gone/2", 9, 3, 1)
	f.Add("", "", math.MinInt, math.MaxInt, math.MinInt)
	f.Add("1 1 1", "snap/1 snap/1", math.MaxInt, math.MinInt, math.MaxInt)
	f.Fuzz(func(t *testing.T, words, paths string, day, age, count int) {
		l := snapsOf(words)
		if len(l) > 0 {
			l[0].Files = with(0, strings.Fields(paths)...).Files
		}
		ids := Keep(l, day, age, count)
		if len(ids) > len(l) || len(l) > 0 && (len(ids) == 0 || ids[len(ids)-1] != l[len(l)-1].ID) {
			t.Fatal(ids)
		}
		st := store.New()
		for _, name := range strings.Fields(paths + " a b") {
			_ = st.Put(name, "x") // one that may not be put is not there
		}
		needed := Reach(l)
		orphans := Orphans(st, needed, age)
		if !rises(needed) || !rises(orphans) || age > 0 && len(orphans) > 0 {
			t.Fatal(needed, orphans)
		}
		for _, name := range orphans {
			if slices.Contains(needed, name) || st.Born(name) < 0 {
				t.Fatal(needed, orphans)
			}
		}
	})
}

func ExampleKeep() {
	l := []api.Snap{{ID: 2, Day: 1}, {ID: 5, Day: 4}, {ID: 7, Day: 6}, {ID: 9, Day: 6}}
	fmt.Println(Keep(l, 10, 6, 0))
	fmt.Println(Keep(l, 10, 0, 2))
	fmt.Println(Keep(l, 10, 0, 0))
	// Output:
	// [5 7 9]
	// [7 9]
	// [9]
}
