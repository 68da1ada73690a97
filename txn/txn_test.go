package txn

import (
	"fmt"
	"math"
	"math/rand"
	"reflect"
	"slices"
	"strconv"
	"strings"
	"testing"

	"deedbox/api"
	"deedbox/data"
	"deedbox/file"
	"deedbox/gone"
	"deedbox/row"
	"deedbox/scan"
	"deedbox/snap"
	"deedbox/store"
)

const big = api.MaxNum

// fileOf a path, with a Part that is right for it.
func fileOf(path string, seq int) api.File {
	f := api.File{Path: path, Part: "eu", N: 2, Lo: -3, Hi: 5, Seq: seq}
	if strings.HasPrefix(path, "gone/") {
		f.Part = "-"
	}
	return f
}

// snapOf files, each told as `PATH:SEQ`.
func snapOf(id, seq int, files string) api.Snap {
	s := api.Snap{ID: id, Parent: id - 1, Seq: seq, Day: 3, Index: 2, Op: "append"}
	for _, word := range strings.Fields(files) {
		path, number, _ := strings.Cut(word, ":")
		n, err := strconv.Atoi(number)
		if err != nil {
			panic(err)
		}
		s.Files = append(s.Files, fileOf(path, n))
	}
	return s
}

// tell all of a snap but what is known of its files beside their Seq.
func tell(s api.Snap) string {
	text := fmt.Sprint(s.ID, s.Parent, s.Seq, s.Day, s.Index, " ", s.Op)
	for _, f := range s.Files {
		text += fmt.Sprint(" ", f.Path, ":", f.Seq)
	}
	return text
}

func begin(t *testing.T, s api.Snap) *Txn {
	t.Helper()
	x, err := Begin(s)
	if err != nil {
		t.Fatal(s, err)
	}
	return x
}

// change of a snap: paths to be removed have a `-` ahead.
func change(t *testing.T, s api.Snap, paths string) *Txn {
	t.Helper()
	x := begin(t, s)
	for _, word := range strings.Fields(paths) {
		path, less := strings.CutPrefix(word, "-")
		err := error(nil)
		if less {
			err = x.Remove(path)
		} else {
			err = x.Add(fileOf(path, 0))
		}
		if err != nil {
			t.Fatal(word, err)
		}
	}
	return x
}

// long has n files: data/2, data/4 ..
func long(n int) api.Snap {
	s := snapOf(big/2, 7, "")
	for i := range n {
		s.Files = append(s.Files, fileOf("data/"+strconv.Itoa(2*i+2), i%7+1))
	}
	return s
}

// isFault: the place is told, and the error beneath it is bare; below 0: no place is told.
func isFault(err error, at int, want error) bool {
	if at < 0 {
		return err == want
	}
	f, ok := err.(*api.Fault)
	return ok && f.At == at && f.Err == want
}

func isNone(s api.Snap) bool { return reflect.DeepEqual(s, api.Snap{}) }

// wrongSnaps, with what snap.Check says of them.
func wrongSnaps() map[*api.Fault]api.Snap {
	most := long(api.MaxFiles + 1)
	bad := snapOf(9, 5, "data/2:1 data/4:2")
	bad.Files[1].N = 0
	op := snapOf(9, 5, "data/2:1")
	op.Op = "change"
	day := snapOf(9, 5, "data/2:1")
	day.Day = api.MaxDay + 1
	return map[*api.Fault]api.Snap{
		{At: -1, Err: api.ErrBound}: {},
		{At: -1, Err: api.ErrBound}: {ID: 1, Seq: -1, Op: "start"},
		{At: -1, Err: api.ErrBound}: day,
		{At: -1, Err: api.ErrKind}:  {ID: 1},
		{At: -1, Err: api.ErrKind}:  op,
		{At: -1, Err: api.ErrFull}:  most,
		{At: 0, Err: api.ErrName}:   {ID: 1, Op: "start", Files: []api.File{{}}},
		{At: 1, Err: api.ErrBound}:  bad,
		{At: 1, Err: api.ErrOrder}:  snapOf(9, 5, "data/2:1 data/1:1"),
		{At: 2, Err: api.ErrOrder}:  snapOf(9, 5, "data/2:1 data/3:5 gone/1:6"),
	}
}

// P110, P111: what snap.Check says of the snap it is begun on, or done on, is told with its place, ahead of all else.
func TestWrongSnaps(t *testing.T) {
	for want, s := range wrongSnaps() {
		if x, err := Begin(s); x != nil || !isFault(err, want.At, want.Err) {
			t.Errorf("Begin(%s): %v, %#v", tell(s), x, err)
		}
		for _, x := range []*Txn{begin(t, snap.First()), change(t, snap.First(), "data/2"), change(t, snapOf(9, 5, "data/2:1 data/7:1"), "-data/7 data/2 gone/3")} {
			for _, id := range []int{0, 9, 10, big + 1} {
				if got, err := x.Commit(s, id, 0, 0); !isNone(got) || !isFault(err, want.At, want.Err) {
					t.Errorf("Commit(%s, %d): %v, %#v", tell(s), id, got, err)
				}
			}
		}
	}
}

// P110: a file that is added is right but for its Seq, which may be any, and is added once.
func TestAdd(t *testing.T) {
	x := begin(t, snapOf(9, 5, "data/2:1 gone/8:2"))
	for _, f := range []api.File{fileOf("data/1", 0), fileOf("data/3", -1), fileOf("data/10", math.MaxInt), fileOf("gone/1", math.MinInt), fileOf("gone/3", big+1), fileOf("data/1073741824", 1)} {
		if err := x.Add(f); err != nil {
			t.Error(f, err)
		}
		twice := f
		twice.N, twice.Seq = 40, 5
		if err := x.Add(twice); err != api.ErrExist {
			t.Error(f, err)
		}
	}
	for _, c := range []struct {
		f    api.File
		want error
	}{
		{api.File{}, api.ErrName},
		{fileOf("", 1), api.ErrName},
		{fileOf("data/0", 1), api.ErrName},
		{fileOf("data/01", 1), api.ErrName},
		{fileOf("snap/5", 1), api.ErrName},
		{fileOf("data/1073741825", 1), api.ErrName},
		{api.File{Path: "data/5", Part: "-", N: 1, Seq: 1}, api.ErrKind},
		{api.File{Path: "gone/5", Part: "eu", N: 1, Seq: 1}, api.ErrKind},
		{api.File{Path: "data/1", Part: "EU", N: 1, Seq: 1}, api.ErrKind},
		{api.File{Path: "data/5", Part: "eu", N: 0, Seq: 1}, api.ErrBound},
		{api.File{Path: "data/1", Part: "eu", N: 41, Seq: 1}, api.ErrBound},
		{api.File{Path: "gone/5", Part: "-", N: 1, Lo: 1, Seq: 1}, api.ErrBound},
		{api.File{Path: "data/5", Part: "eu", N: 1, Hi: big + 1, Seq: 1}, api.ErrBound},
		{api.File{Path: "data/5", Part: "eu", N: 1, Lo: -big - 1, Seq: 1}, api.ErrBound},
	} {
		if err := x.Add(c.f); err != c.want {
			t.Errorf("Add(%v): %v", c.f, err)
		}
	}
	// What the errors told of is not there, and the first one of two counts.
	s, err := x.Commit(snap.First(), 2, 0, 0)
	if tell(s) != "2 1 1 0 0 delete data/1:1 data/3:1 data/10:1 data/1073741824:1 gone/1:1 gone/3:1" || err != nil || s.Files[0].N != 2 {
		t.Error(s, err)
	}
}

// P110: a path that is there when the change begins may be added all the same: the snap of now counts.
func TestAddWhatIsThere(t *testing.T) {
	was := snapOf(9, 5, "data/2:1 gone/8:2")
	x := change(t, was, "data/2 gone/8")
	if s, err := x.Commit(was, 10, 0, 0); !isNone(s) || err != api.ErrExist {
		t.Error(s, err)
	}
	for _, files := range []string{"data/2:5", "gone/8:1", "data/1:1 gone/8:1", "data/2:1 gone/1:1"} {
		if s, err := x.Commit(snapOf(11, 6, files), 12, 0, 0); !isNone(s) || err != api.ErrExist {
			t.Error(s, err)
		}
	}
	if s, err := x.Commit(snapOf(11, 6, "data/8:5 gone/2:5"), 12, 0, 0); tell(s) != "12 11 7 0 0 delete data/2:7 data/8:5 gone/2:5 gone/8:7" || err != nil {
		t.Error(s, err)
	}
}

// P110: what is removed is of the snap it was begun on, and removed once.
func TestRemove(t *testing.T) {
	x := change(t, snapOf(9, 5, "data/2:1 data/10:1 gone/2:2"), "data/3 gone/3")
	for _, path := range []string{"", "x", "data/", "data/1", "data/02", "data/3", "gone/3", "gone/10", "data/2 ", "DATA/2"} {
		if err := x.Remove(path); err != api.ErrNone {
			t.Errorf("Remove(%q): %v", path, err)
		}
	}
	for _, path := range []string{"data/10", "gone/2", "data/2"} {
		if err := x.Remove(path); err != nil {
			t.Error(path, err)
		}
		if err := x.Remove(path); err != api.ErrExist {
			t.Error(path, err)
		}
	}
	if s, err := x.Commit(snapOf(9, 5, "data/2:1 data/10:1 gone/2:2"), 10, 0, 0); tell(s) != "10 9 6 0 0 rewrite data/3:5 gone/3:6" || err != nil {
		t.Error(s, err)
	}
}

// P110, P111: each kind of change, done on the snap it was begun on, and on one that came later.
func TestCommit(t *testing.T) {
	was := snapOf(9, 5, "data/2:1 data/10:5 gone/3:2 gone/20:5")
	later := snapOf(30, 8, "data/2:1 data/4:7 data/10:5 data/11:6 gone/3:2 gone/4:8 gone/20:5")
	for _, c := range []struct{ paths, onWas, onLater string }{
		{"",
			"41 9 6 7 4 append data/2:1 data/10:5 gone/3:2 gone/20:5",
			"41 30 9 7 4 append data/2:1 data/4:7 data/10:5 data/11:6 gone/3:2 gone/4:8 gone/20:5"},
		{"data/40",
			"41 9 6 7 4 append data/2:1 data/10:5 data/40:6 gone/3:2 gone/20:5",
			"41 30 9 7 4 append data/2:1 data/4:7 data/10:5 data/11:6 data/40:9 gone/3:2 gone/4:8 gone/20:5"},
		{"data/3 data/1",
			"41 9 6 7 4 append data/1:6 data/2:1 data/3:6 data/10:5 gone/3:2 gone/20:5",
			"41 30 9 7 4 append data/1:9 data/2:1 data/3:9 data/4:7 data/10:5 data/11:6 gone/3:2 gone/4:8 gone/20:5"},
		{"gone/9",
			"41 9 6 7 4 delete data/2:1 data/10:5 gone/3:2 gone/9:6 gone/20:5",
			"41 30 9 7 4 delete data/2:1 data/4:7 data/10:5 data/11:6 gone/3:2 gone/4:8 gone/9:9 gone/20:5"},
		{"data/9 gone/9 data/1",
			"41 9 6 7 4 delete data/1:6 data/2:1 data/9:6 data/10:5 gone/3:2 gone/9:6 gone/20:5",
			"41 30 9 7 4 delete data/1:9 data/2:1 data/4:7 data/9:9 data/10:5 data/11:6 gone/3:2 gone/4:8 gone/9:9 gone/20:5"},
		{"-data/2",
			"41 9 6 7 4 rewrite data/10:5 gone/3:2 gone/20:5",
			"41 30 9 7 4 rewrite data/4:7 data/10:5 data/11:6 gone/3:2 gone/4:8 gone/20:5"},
		{"-gone/3",
			"41 9 6 7 4 rewrite data/2:1 data/10:5 gone/20:5",
			"41 30 9 7 4 rewrite data/2:1 data/4:7 data/10:5 data/11:6 gone/4:8 gone/20:5"},
		{"-gone/20 data/3 gone/1 -data/10 -data/2",
			"41 9 6 7 4 rewrite data/3:5 gone/1:6 gone/3:2",
			"41 30 9 7 4 rewrite data/3:5 data/4:7 data/11:6 gone/1:9 gone/3:2 gone/4:8"},
		{"data/3 -data/2 -data/10 -gone/3 -gone/20",
			"41 9 6 7 4 rewrite data/3:5",
			"41 30 9 7 4 rewrite data/3:5 data/4:7 data/11:6 gone/4:8"},
	} {
		x := change(t, was, c.paths)
		for range 2 {
			if s, err := x.Commit(was, 41, 7, 4); tell(s) != c.onWas || err != nil {
				t.Errorf("%q: %s, %v", c.paths, tell(s), err)
			}
			if s, err := x.Commit(later, 41, 7, 4); tell(s) != c.onLater || err != nil {
				t.Errorf("%q: %s, %v", c.paths, tell(s), err)
			}
		}
	}
}

// P111, P112: all that is known of a file goes with it, but the Seq of one that is added.
func TestWhatIsKnown(t *testing.T) {
	was := snapOf(9, 5, "data/2:1 gone/3:2")
	was.Files[0] = api.File{Path: "data/2", Part: "n1073741824", N: 40, Lo: -big, Hi: big, Seq: 5}
	was.Files[1] = api.File{Path: "gone/3", Part: "-", N: 7, Lo: 8, Hi: 9, Seq: 4}
	x := begin(t, snapOf(3, 2, ""))
	x.Add(api.File{Path: "data/9", Part: "a", N: 6, Lo: 3, Hi: 4, Seq: 77})
	s, err := x.Commit(was, big, api.MaxDay, big)
	want := api.Snap{ID: big, Parent: 9, Seq: 6, Day: api.MaxDay, Index: big, Op: "append", Files: []api.File{
		was.Files[0],
		{Path: "data/9", Part: "a", N: 6, Lo: 3, Hi: 4, Seq: 6},
		was.Files[1],
	}}
	if !reflect.DeepEqual(s, want) || err != nil {
		t.Error(s, err)
	}
}

// P111: one that is removed is there no more: ErrStale, ahead of ErrExist, and both ahead of what the new snap is.
func TestStale(t *testing.T) {
	was := snapOf(9, 5, "data/2:1 data/4:1 gone/3:2")
	for _, c := range []struct {
		paths, now string
		want       error
	}{
		{"-data/2", "data/4:1 gone/3:2", api.ErrStale},
		{"-data/2", "", api.ErrStale},
		{"-data/2", "gone/2:1", api.ErrStale},
		{"-gone/3", "data/2:1 data/3:1 data/4:1", api.ErrStale},
		{"-data/2 -data/4", "data/2:1 gone/3:2", api.ErrStale},
		{"-data/4 -data/2", "data/2:1 gone/3:2", api.ErrStale},
		{"-data/2 data/6", "data/4:1 data/6:4", api.ErrStale},
		{"data/6 -data/2", "data/4:1 data/6:4", api.ErrStale},
		{"-data/2 data/6", "data/2:1 data/6:4", api.ErrExist},
		{"gone/6", "data/2:1 gone/6:4", api.ErrExist},
		{"data/7 data/6", "data/2:1 data/6:4", api.ErrExist},
		// Removed and added: the snap of now has it, all the same.
		{"-data/2 data/2", "data/2:1", api.ErrExist},
		{"-data/2 data/2", "data/4:1", api.ErrStale},
	} {
		x := change(t, was, c.paths)
		for _, id := range []int{12, 11, 0, math.MinInt, math.MaxInt} {
			if s, err := x.Commit(snapOf(11, 7, c.now), id, -1, -1); !isNone(s) || err != c.want {
				t.Errorf("%q on %q: %v, %v", c.paths, c.now, s, err)
			}
		}
	}
	// By its path alone: what else is known of it by now does not count.
	x := change(t, was, "-data/2")
	if s, err := x.Commit(snapOf(11, 7, "data/2:7 data/9:7"), 12, 0, 0); tell(s) != "12 11 8 0 0 rewrite data/9:7" || err != nil {
		t.Error(s, err)
	}
}

// P111: numbers of the new snap at the edges, and beyond them.
func TestNumbers(t *testing.T) {
	now := snapOf(9, 5, "data/2:1")
	x := change(t, now, "data/3")
	for _, c := range []struct {
		id, day, index int
		right          bool
	}{
		{10, 0, 0, true},
		{big, api.MaxDay, big, true},
		{9, 0, 0, false},
		{8, 0, 0, false},
		{1, 0, 0, false},
		{0, 0, 0, false},
		{-10, 0, 0, false},
		{big + 1, 0, 0, false},
		{math.MaxInt, 0, 0, false},
		{math.MinInt, 0, 0, false},
		{10, -1, 0, false},
		{10, api.MaxDay + 1, 0, false},
		{10, math.MinInt, 0, false},
		{10, 0, -1, false},
		{10, 0, big + 1, false},
		{10, 0, math.MaxInt, false},
	} {
		s, err := x.Commit(now, c.id, c.day, c.index)
		if c.right && (tell(s) != fmt.Sprint(c.id, 9, 6, c.day, c.index, " append data/2:1 data/3:6") || err != nil) {
			t.Error(c, s, err)
		}
		if !c.right && (!isNone(s) || err != api.ErrBound) {
			t.Error(c, s, err)
		}
	}
	// The day and the index may be ahead of now's: nothing is said of them.
	if s, err := x.Commit(now, 10, 1, 1); tell(s) != "10 9 6 1 1 append data/2:1 data/3:6" || err != nil {
		t.Error(s, err)
	}
	for seq, want := range map[int]error{big - 1: nil, big: api.ErrBound} {
		if s, err := x.Commit(snapOf(9, seq, "data/2:1"), 10, 0, 0); err != want || isNone(s) != (want != nil) {
			t.Error(seq, s, err)
		}
	}
	if s, err := x.Commit(snapOf(big, 5, ""), big, 0, 0); !isNone(s) || err != api.ErrBound {
		t.Error(s, err)
	}
}

// P111: data of a rewrite is as old as the snap it was begun on: where that one is ahead of the new one, ErrOrder, bare.
func TestRewriteOfLater(t *testing.T) {
	was := snapOf(9, 8, "data/2:1")
	for _, c := range []struct {
		paths, told string
		seq         int
	}{
		{"-data/2 data/3", "10 4 8 0 0 rewrite data/3:8", 7},
		{"-data/2 data/3", "", 6},
		{"-data/2 gone/3", "10 4 7 0 0 rewrite gone/3:7", 6},
		{"-data/2", "10 4 2 0 0 rewrite", 1},
		{"data/3", "10 4 2 0 0 append data/2:1 data/3:2", 1},
		{"gone/3 data/3", "10 4 2 0 0 delete data/2:1 data/3:2 gone/3:2", 1},
	} {
		x := change(t, was, c.paths)
		s, err := x.Commit(snapOf(4, c.seq, "data/2:1"), 10, 0, 0)
		if c.told != "" && (tell(s) != c.told || err != nil) || c.told == "" && (!isNone(s) || err != api.ErrOrder) {
			t.Error(c, s, err)
		}
	}
	// Numbers are told ahead.
	x := change(t, was, "-data/2 data/3")
	if s, err := x.Commit(snapOf(4, 1, "data/2:1"), 4, 0, 0); !isNone(s) || err != api.ErrBound {
		t.Error(s, err)
	}
}

// P111: as many files as there may be, and one more: ErrFull, behind what its numbers are.
func TestMostFiles(t *testing.T) {
	for _, c := range []struct {
		there, less, more int
		want              error
	}{
		{0, 0, 60, nil},
		{0, 0, 61, api.ErrFull},
		{0, 0, 200, api.ErrFull},
		{59, 0, 1, nil},
		{59, 0, 2, api.ErrFull},
		{60, 0, 0, nil},
		{60, 0, 1, api.ErrFull},
		{60, 1, 1, nil},
		{60, 1, 2, api.ErrFull},
		{60, 60, 60, nil},
		{60, 60, 61, api.ErrFull},
	} {
		now := long(c.there)
		x := begin(t, now)
		for _, f := range now.Files[:c.less] {
			if err := x.Remove(f.Path); err != nil {
				t.Fatal(err)
			}
		}
		for i := range c.more {
			if err := x.Add(fileOf("data/"+strconv.Itoa(2*i+1), 0)); err != nil {
				t.Fatal(err)
			}
		}
		s, err := x.Commit(now, big, 0, 0)
		if err != c.want || c.want != nil && !isNone(s) || c.want == nil && (len(s.Files) != c.there-c.less+c.more || snap.Check(s) != nil) {
			t.Error(c, len(s.Files), err)
		}
		if s, err := x.Commit(now, now.ID, 0, 0); !isNone(s) || err != api.ErrBound {
			t.Error(c, len(s.Files), err)
		}
	}
}

// P3, P4: what is handed over is only read and not kept, what lies behind it is left, and what is answered is new memory.
func TestMemory(t *testing.T) {
	all := long(8)
	was := slices.Clone(all.Files)
	s := all
	s.Files = all.Files[:5]
	x := change(t, s, "data/1 -data/4 gone/9")
	one, err := x.Commit(s, big, 0, 0)
	if err != nil || !slices.Equal(all.Files, was) {
		t.Fatal(err, "what was given has changed")
	}
	text := tell(one)
	clear(all.Files)
	// The snap it was begun on is kept, although the list that was lent is another one by now.
	if err := x.Remove("data/2"); err != nil {
		t.Error(err)
	}
	if err := x.Remove("data/12"); err != api.ErrNone {
		t.Error(err)
	}
	if tell(one) != text {
		t.Error("an answer hangs on what was given")
	}
	all.Files = slices.Clone(was)
	s.Files = all.Files[:5]
	two, _ := x.Commit(s, big, 0, 0)
	three, _ := x.Commit(s, big, 0, 0)
	text = tell(three)
	clear(two.Files[:cap(two.Files)])
	if tell(three) != text || !slices.Equal(all.Files, was) {
		t.Error("an answer shares memory")
	}
	if four, _ := x.Commit(s, big, 0, 0); tell(four) != text {
		t.Error("an answer was kept")
	}
}

// P2: changes begun on one snap know nothing of each other.
func TestApart(t *testing.T) {
	s := snapOf(9, 5, "data/2:1 data/4:1")
	one, two := begin(t, s), begin(t, s)
	if err := one.Add(fileOf("data/7", 0)); err != nil {
		t.Fatal(err)
	}
	if err := one.Remove("data/2"); err != nil {
		t.Fatal(err)
	}
	if err := two.Add(fileOf("data/7", 0)); err != nil {
		t.Error(err)
	}
	if err := two.Remove("data/2"); err != nil {
		t.Error(err)
	}
	if s, err := begin(t, s).Commit(s, 10, 0, 0); tell(s) != "10 9 6 0 0 append data/2:1 data/4:1" || err != nil {
		t.Error(s, err)
	}
}

// P1: what Begin answers beside an error does not panic.
func TestNil(t *testing.T) {
	x, err := Begin(api.Snap{})
	if x != nil || err != api.ErrBound {
		t.Fatal(x, err)
	}
	if err := x.Add(fileOf("data/1", 1)); err != api.ErrShape {
		t.Error(err)
	}
	if err := x.Remove("data/1"); err != api.ErrShape {
		t.Error(err)
	}
	if s, err := x.Commit(snap.First(), 2, 0, 0); !isNone(s) || err != api.ErrShape {
		t.Error(s, err)
	}
}

// history of a table, whose changes are begun on any of its snaps, and done on the last one.
type history struct {
	t     *testing.T
	r     *rand.Rand
	st    *store.Store
	snaps []api.Snap
	next  int
}

func newHistory(t *testing.T, r *rand.Rand) *history {
	return &history{t: t, r: r, st: store.New(), snaps: []api.Snap{snap.First()}, next: 2}
}

func (h *history) now() api.Snap { return h.snaps[len(h.snaps)-1] }

func (h *history) rows(s api.Snap) []api.Row {
	h.t.Helper()
	l, err := scan.Rows(h.st, s, -big, big)
	if err != nil {
		h.t.Fatal(tell(s), err)
	}
	return l
}

// write a file, and hand it to a change.
func (h *history) write(x *Txn, kind, part, text string, err error) {
	h.t.Helper()
	path := kind + "/" + strconv.Itoa(h.next)
	h.next++
	if err == nil {
		err = h.st.Put(path, text)
	}
	f, known := file.Of(path, part, text, 1)
	if err != nil || known != nil || x.Add(f) != nil {
		h.t.Fatal(path, err, known)
	}
}

func (h *history) appended(x *Txn) []api.Row {
	var l []api.Row
	for range h.r.Intn(3) + 1 {
		l = append(l, api.Row{Part: "eu", Key: h.r.Intn(9), Val: h.r.Intn(3)})
	}
	text, err := data.Make(l)
	h.write(x, "data", "eu", text, err)
	return l
}

func (h *history) deleted(x *Txn) []int {
	keys := []int{h.r.Intn(9), h.r.Intn(9)}
	text, err := gone.Make(keys)
	h.write(x, "gone", "-", text, err)
	return keys
}

// rewritten: some files of rows become one, with the rows that they have in that snap; files of keys that have nothing to take there go.
func (h *history) rewritten(x *Txn, was api.Snap) {
	h.t.Helper()
	some := was
	some.Files = slices.DeleteFunc(slices.Clone(was.Files), func(f api.File) bool { return !file.IsGone(f) && h.r.Intn(2) == 0 })
	rows := h.rows(some)
	if len(rows) > api.MaxRows {
		return
	}
	for _, f := range some.Files {
		older := func(g api.File) bool { return !file.IsGone(g) && g.Seq < f.Seq }
		if file.IsGone(f) && slices.ContainsFunc(was.Files, older) {
			continue
		}
		if err := x.Remove(f.Path); err != nil {
			h.t.Fatal(f, err)
		}
	}
	if len(rows) > 0 {
		text, err := data.Make(rows)
		h.write(x, "data", "eu", text, err)
	}
}

// done on the last snap, if it may be; else nothing is.
func (h *history) done(x *Txn) bool {
	h.t.Helper()
	now := h.now()
	s, err := x.Commit(now, h.next, h.r.Intn(9), h.r.Intn(9))
	if err == api.ErrStale && len(x.removed) > 0 && isNone(s) {
		return false
	}
	if err != nil || snap.Check(s) != nil {
		h.t.Fatal(err, tell(s))
	}
	h.next++
	h.untouched(x, now, s)
	h.snaps = append(h.snaps, s)
	return true
}

// untouched: each file that was there and is not removed stands as it was, and there is nothing else but what was added.
func (h *history) untouched(x *Txn, now, s api.Snap) {
	h.t.Helper()
	for _, f := range now.Files {
		if slices.Contains(s.Files, f) == slices.Contains(x.removed, f.Path) {
			h.t.Fatal(f, tell(s))
		}
	}
	if len(s.Files) != len(now.Files)-len(x.removed)+len(x.added) {
		h.t.Fatal(tell(now), tell(s))
	}
}

// P111, P112: whatever snap a change was begun on, it leaves all that came between: rows that are added come beside the others, keys that go take what is there by now, and a rewrite changes no rows.
func TestLosesNothing(t *testing.T) {
	r := rand.New(rand.NewSource(11))
	stale, later := 0, 0
	for range 300 {
		h := newHistory(t, r)
		for range 25 {
			was, now := h.snaps[max(0, len(h.snaps)-1-r.Intn(4))], h.now()
			x := begin(t, was)
			want := h.rows(now)
			switch r.Intn(3) {
			case 0:
				want = row.Sort(slices.Concat(want, h.appended(x)))
			case 1:
				keys := h.deleted(x)
				want = slices.DeleteFunc(want, func(r api.Row) bool { return slices.Contains(keys, r.Key) })
			case 2:
				h.rewritten(x, was)
			}
			if !h.done(x) {
				stale++
				continue
			}
			if was.ID != now.ID && len(x.removed) > 0 {
				later++
			}
			if got := h.rows(h.now()); !slices.Equal(got, want) {
				t.Fatalf("on %s: %s: %v, not %v", tell(now), tell(h.now()), got, want)
			}
		}
	}
	if stale < 100 || later < 100 {
		t.Error("too few changes came late:", stale, later)
	}
}

// P1, P3, P111: whatever is handed over: a snap that is right, or an error of those that are named, and none.
func FuzzCommit(f *testing.F) {
	f.Add("data/3", "eu", 2, 0, 5, "data/2", 9, 5, 7, 12, 3, 4)
	f.Add("gone/3", "-", 2, 0, 5, "", 9, 5, 5, 10, 3, 4)
	f.Add("data/2", "", 0, 9, 5, "data/7", 9, 5, 1, 0, -1, 1<<31)
	f.Fuzz(func(t *testing.T, path, part string, n, lo, hi int, less string, wasID, wasSeq, nowSeq, id, day, index int) {
		was, now := snapOf(wasID, wasSeq, "data/2:1 gone/2:1"), snapOf(9, nowSeq, "data/2:1 data/4:1 gone/2:1")
		x, err := Begin(was)
		if (err == nil) != (x != nil) || (err == nil) != (snap.Check(was) == nil) {
			t.Fatal(x, err)
		}
		if err != nil {
			return
		}
		added := api.File{Path: path, Part: part, N: n, Lo: lo, Hi: hi, Seq: 1}
		if err := x.Add(added); err != file.Check(added) {
			t.Fatal(added, err)
		}
		if err := x.Remove(less); (err == nil) != (less == "data/2" || less == "gone/2") || err != nil && err != api.ErrNone {
			t.Fatal(less, err)
		}
		s, err := x.Commit(now, id, day, index)
		if err == nil {
			if snap.Check(s) != nil || snap.Check(now) != nil || s.ID != id || s.Parent != 9 || s.Seq != nowSeq+1 || s.Day != day || s.Index != index {
				t.Fatal(tell(s))
			}
			return
		}
		named := []error{api.ErrBound, api.ErrExist, api.ErrOrder}
		if bad := snap.Check(now); bad != nil {
			if !isNone(s) || !reflect.DeepEqual(err, bad) {
				t.Fatal(s, err)
			}
		} else if !isNone(s) || !slices.Contains(named, err) {
			t.Fatal(s, err)
		}
	})
}

func ExampleTxn() {
	now := snap.First()
	t, err := Begin(now)
	if err != nil {
		return
	}
	err = t.Add(api.File{Path: "data/2", Part: "eu", N: 1, Lo: 7, Hi: 7})
	if err != nil {
		return
	}
	s, err := t.Commit(now, 3, 0, 1)
	fmt.Println(s, err)
	// Output: {3 1 1 0 1 append [{data/2 eu 1 7 7 1}]} <nil>
}
