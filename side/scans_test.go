package side

import (
	"math"
	"math/rand"
	"slices"
	"testing"

	"deedbox/api"
	"deedbox/scan"
	"deedbox/store"
)

// P160: of each pair how many rows there are, in the pairs' order.
func TestScans(t *testing.T) {
	st, s := table(t)
	l := [][2]int{{-big, big}, {3, 3}, {-5, 9}, {20, 20}, {9, -5}, {-5, -5}, {10, 19}, {-big, big}, {math.MinInt, math.MaxInt}, {math.MaxInt, math.MinInt}}
	for workers := 1; workers <= api.Workers; workers++ {
		got, err := Scans(st, s, l, workers)
		right(t, "pairs", got, err, 3, 0, 2, 1, 0, 1, 0, 3, 3, 0)
		got, err = Scans(st, s, l[3:4], workers)
		right(t, "one pair", got, err, 1)
	}
}

// P160: no pairs have no answers, and nothing is asked of the store and the snap.
func TestNoPairs(t *testing.T) {
	st, s := table(t)
	for _, l := range [][][2]int{nil, {}} {
		got, err := Scans(st, s, l, 1)
		right(t, "of a table", got, err)
		got, err = Scans(nil, api.Snap{}, l, api.Workers)
		right(t, "of nothing", got, err)
	}
}

// P160: how many workers there may be, ahead of how many pairs; and both ahead of what they are asked of.
func TestScansBounds(t *testing.T) {
	st, s := table(t)
	full := slices.Repeat([][2]int{{0, 9}}, 100)
	for _, workers := range []int{1, 16} {
		got, err := Scans(st, s, full, workers)
		right(t, "100", got, err, slices.Repeat([]int{1}, 100)...)
		for _, n := range []int{101, 5000} {
			got, err = Scans(st, s, make([][2]int, n), workers)
			wrong(t, "too many", got, err, "bound")
			got, err = Scans(nil, api.Snap{}, make([][2]int, n), workers)
			wrong(t, "too many of nothing", got, err, "bound")
		}
	}
	for _, workers := range []int{0, 17, -1, math.MinInt, math.MaxInt} {
		for _, n := range []int{0, 1, 100, 101} {
			got, err := Scans(st, s, make([][2]int, n), workers)
			wrong(t, "workers", got, err, "shape")
			got, err = Scans(nil, api.Snap{}, make([][2]int, n), workers)
			wrong(t, "workers, of nothing", got, err, "shape")
		}
	}
}

// P160: errors of what is asked for every pair are told at the first.
func TestScansOfNothing(t *testing.T) {
	st, s := table(t)
	noKind, noOrder, noName := s, s, s
	noKind.Op = "x"
	noOrder.Files = []api.File{s.Files[1], s.Files[0]}
	noName.Files = slices.Clone(s.Files)
	noName.Files[2].Path = "data/0"
	for workers := 1; workers <= api.Workers; workers++ {
		l := [][2]int{{9, 0}, {0, 9}}
		for _, c := range []struct {
			st   *store.Store
			s    api.Snap
			want string
		}{
			{nil, s, "shape at 0"},
			{nil, api.Snap{}, "shape at 0"},
			{st, api.Snap{}, "bound at 0"},
			{st, noKind, "kind at 0"},
			{st, noOrder, "order at 0"},
			{st, noName, "name at 0"},
		} {
			got, err := Scans(c.st, c.s, l, workers)
			wrong(t, "of nothing", got, err, c.want)
		}
	}
}

// P160: the first pair that has an error is told, whose place in the snap is not.
func TestScansFirst(t *testing.T) {
	st, s := table(t)
	eu, us, late, keys := s.Files[0].Path, s.Files[1].Path, s.Files[2].Path, s.Files[3].Path
	both := anew(t, without(t, st, late), us, "what")
	for workers := 1; workers <= api.Workers; workers++ {
		for _, c := range []struct {
			st   *store.Store
			l    [][2]int
			want string
		}{
			{without(t, st, us), [][2]int{{-5, 2}, {20, 20}, {9, 0}, {9, 9}, {3, 3}}, "none at 3"},
			{without(t, st, late), [][2]int{{-5, 2}, {-5, 19}, {0, 20}}, "none at 2"},
			{without(t, st, keys), [][2]int{{-5, -5}, {4, 9}, {3, 3}, {3, 3}}, "none at 2"},
			{anew(t, st, eu, "what"), [][2]int{{20, 20}, {-5, -5}}, "text at 1"},
			{anew(t, st, eu, "data 0 0 0 0\n"), [][2]int{{-5, -5}}, "bound at 0"},
			{both, [][2]int{{20, 20}, {9, 9}, {20, 20}}, "none at 0"},
			{both, [][2]int{{-5, -5}, {9, 9}, {20, 20}}, "text at 1"},
			{store.New(), [][2]int{{21, 30}, {9, 0}, {-9, -6}, {7, 8}}, "none at 3"},
		} {
			got, err := Scans(c.st, s, c.l, workers)
			wrong(t, "first", got, err, c.want)
		}
	}
}

// P161: by however many it is the same, as it is one by one.
func TestScansSame(t *testing.T) {
	for seed := range 40 {
		rnd := rand.New(rand.NewSource(int64(seed)))
		st, s := anyTable(t, rnd)
		l := anyPairs(rnd, rnd.Intn(101))
		var want []int
		for _, pair := range l {
			rows, err := scan.Rows(st, s, pair[0], pair[1])
			if err != nil {
				t.Fatal(err)
			}
			want = append(want, len(rows))
		}
		for workers := 1; workers <= api.Workers; workers++ {
			got, err := Scans(st, s, l, workers)
			right(t, "any", got, err, want...)
		}
	}
}

// P161: an error, too, is the same by however many.
func TestScansSameError(t *testing.T) {
	for seed := range 40 {
		rnd := rand.New(rand.NewSource(int64(seed)))
		st, s := anyTable(t, rnd)
		for _, f := range s.Files {
			if rnd.Intn(4) == 0 {
				st = anew(t, st, f.Path, []string{"", "what", "data 0 0 0 0\n", "gone 0 0 0 0\n"}[rnd.Intn(4)])
			}
		}
		l := anyPairs(rnd, 100)
		want := "nothing"
		for i := len(l) - 1; i >= 0; i-- {
			if _, err := scan.Rows(st, s, l[i][0], l[i][1]); err != nil {
				want = told(&api.Fault{At: i, Err: err.(interface{ Unwrap() error }).Unwrap()})
			}
		}
		for workers := 1; workers <= api.Workers; workers++ {
			if got, err := Scans(st, s, l, workers); told(err) != want || err != nil && len(got) > 0 {
				t.Error(seed, workers, got, told(err), want)
			}
		}
	}
}

// P4: what is handed over stays as it is; what is answered is nobody else's.
func TestScansRead(t *testing.T) {
	st, s := table(t)
	was, files := st.Copy(), slices.Clone(s.Files)
	l := [][2]int{{0, 9}, {-5, 20}, {7, 7}}
	pairs := slices.Clone(l)
	first, err := Scans(st, s, l[:2], 2)
	right(t, "first", first, err, 1, 3)
	first[0] = 7
	second, err := Scans(st, s, l[:2], 2)
	right(t, "second", second, err, 1, 3)
	if !store.Same(st, was) || !slices.Equal(s.Files, files) || !slices.Equal(l, pairs) {
		t.Error("what was handed over is another one", s, l)
	}
}
