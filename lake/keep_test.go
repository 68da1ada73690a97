package lake

import (
	"fmt"
	"math"
	"slices"
	"strings"
	"testing"

	"deedbox/api"
	"deedbox/store"
)

// days: a lake with a snap of each of these days, its first one of day 0: the snaps 1, 4, 7 and so on, each with a row more.
func days(t *testing.T, l ...int) *Lake {
	t.Helper()
	k := fresh(t, "part")
	for i, day := range l {
		later(t, k, day-k.Store().Day())
		says(t, "1")(k.Append(i+1, many("a", i, 1)))
	}
	return k
}

// P142: snaps of the last days, the last ones, and the one of now.
func TestExpire(t *testing.T) {
	for _, c := range []struct {
		age, count int
		told       string
		snaps      string
	}{
		{0, 0, "4", "[13]"}, {0, 1, "4", "[13]"}, {0, 2, "3", "[10 13]"}, {0, 4, "1", "[4 7 10 13]"}, {0, 5, "0", "[1 4 7 10 13]"}, {0, math.MaxInt, "0", "[1 4 7 10 13]"},
		{3, 0, "4", "[13]"}, {4, 0, "3", "[10 13]"}, {6, 0, "3", "[10 13]"}, {7, 0, "1", "[4 7 10 13]"}, {9, 0, "1", "[4 7 10 13]"}, {10, 0, "0", "[1 4 7 10 13]"}, {4, 4, "1", "[4 7 10 13]"},
		{big, 0, "0", "[1 4 7 10 13]"}, {big + 1, 0, "4", "[13]"}, {math.MaxInt, 99, "4", "[13]"},
	} {
		k := days(t, 3, 3, 6, 9)
		later(t, k, 1)
		objects, day := k.Store().Names(), k.Store().Day()
		rows := rowsTold(k.Rows(-big, big))
		says(t, c.told)(k.Expire(c.age, c.count))
		want(t, fmt.Sprint(c), fmt.Sprint(k.Snaps()), c.snaps)
		has(t, k, rows)
		if c.told == "0" {
			want(t, "names", names(k), strings.Join(objects, " "))
			want(t, "head", k.Store().Head(), "meta/14")
		} else {
			objects = append(objects, "meta/15")
			slices.Sort(objects)
			want(t, "names", names(k), strings.Join(objects, " "))
			want(t, "head", k.Store().Head(), "meta/15")
			want(t, "meta", text(t, k.Store(), "meta/15"), "meta "+strings.Trim(c.snaps, "[]")+"\n")
		}
		if k.Now().ID != 13 || k.Store().Day() != day {
			t.Error(c, k.Now())
		}
		whole(t, k)
		unchanged(t, k, func() { says(t, "0")(k.Expire(c.age, c.count)) })
	}
}

// P142: errors, ahead of what is read, and of what is read, bare.
func TestWrongExpire(t *testing.T) {
	k := days(t, 1, 2)
	right(t, k.Store().Drop("snap/4"))
	unchanged(t, k, func() {
		for _, wrong := range []int{-1, -big, math.MinInt} {
			says(t, "bound")(k.Expire(wrong, 1))
			says(t, "bound")(k.Expire(1, wrong))
			says(t, "bound")(k.Clean(wrong))
		}
		says(t, "none")(k.Expire(0, 0))
		says(t, "none")(k.Clean(0))
	})
	putAll(t, k.Store(), "snap/4", snapText("4 1 1 1 1 append", "data/3 a 1 0 0 1\ndata/3 a 1 0 0 1\n"))
	unchanged(t, k, func() {
		says(t, "order")(k.Expire(0, 0))
		says(t, "order")(k.Clean(0))
		says(t, "order")(k.Then(9))
	})
}

// P142: what nobody needs, and is old enough.
func TestClean(t *testing.T) {
	k := days(t, 2, 5)
	says(t, "1")(k.Delete(3, []int{0}))
	putAll(t, k.Store(), "note", "x")
	want(t, "names", names(k), "data/3 data/6 gone/9 meta/11 meta/2 meta/5 meta/8 note snap/1 snap/10 snap/4 snap/7")
	later(t, k, 4)
	for _, c := range []struct {
		age        int
		told, left string
	}{
		{10, "0", "data/3 data/6 gone/9 meta/11 meta/2 meta/5 meta/8 note snap/1 snap/10 snap/4 snap/7"},
		{math.MaxInt, "0", "data/3 data/6 gone/9 meta/11 meta/2 meta/5 meta/8 note snap/1 snap/10 snap/4 snap/7"},
		{9, "1", "data/3 data/6 gone/9 meta/11 meta/5 meta/8 note snap/1 snap/10 snap/4 snap/7"},
		{8, "0", "data/3 data/6 gone/9 meta/11 meta/5 meta/8 note snap/1 snap/10 snap/4 snap/7"},
		{7, "1", "data/3 data/6 gone/9 meta/11 meta/8 note snap/1 snap/10 snap/4 snap/7"},
		{5, "0", "data/3 data/6 gone/9 meta/11 meta/8 note snap/1 snap/10 snap/4 snap/7"},
		{4, "2", "data/3 data/6 gone/9 meta/11 snap/1 snap/10 snap/4 snap/7"},
		{0, "0", "data/3 data/6 gone/9 meta/11 snap/1 snap/10 snap/4 snap/7"},
	} {
		sameTable(t, k, func() { says(t, c.told)(k.Clean(c.age)) })
		want(t, fmt.Sprint(c), names(k), c.left)
		whole(t, k)
	}
	// All snaps are reached, not the one of now alone.
	want(t, "At", rowsTold(k.At(7, -big, big)), "a:0:0 a:1:0")
	says(t, "3")(k.Expire(0, 1))
	says(t, "4")(k.Clean(0))
	want(t, "names", names(k), "data/3 data/6 gone/9 meta/12 snap/10")
	has(t, k, "a:1:0")
	says(t, "1")(k.Pack(41))
	has(t, k, "a:1:0")
	whole(t, k)
}

// P142: files that only older snaps need go with these, and no others.
func TestCleanFiles(t *testing.T) {
	k := fresh(t, "part")
	says(t, "2")(k.Append(1, rowsOf("a:1:1 b:1:1")))
	says(t, "1")(k.Append(2, rowsOf("a:2:2")))
	says(t, "1")(k.Pack(41))
	later(t, k, 1)
	want(t, "files", files(k), "data/4 b 1 1, data/10 a 2 2")
	says(t, "3")(k.Clean(1))
	want(t, "At", rowsTold(k.At(8, -big, big)), "a:1:1 a:2:2 b:1:1")
	says(t, "3")(k.Expire(0, 0))
	says(t, "6")(k.Clean(0))
	want(t, "names", names(k), "data/10 data/4 meta/13 snap/11")
	has(t, k, "a:1:1 a:2:2 b:1:1")
	whole(t, k)
}

// P142: without power nothing is dropped; nothing to be dropped is no error.
func TestCleanOff(t *testing.T) {
	k := days(t, 1)
	right(t, k.Store().Cut(0))
	says(t, "off")(k.Append(2, nil))
	unchanged(t, k, func() {
		says(t, "off")(k.Clean(0))
		says(t, "0")(k.Clean(2))
		says(t, "off")(k.Expire(0, 1))
		says(t, "0")(k.Expire(0, 2))
	})
	k.Store().On()
	says(t, "2")(k.Clean(0))
	says(t, "1")(k.Expire(0, 1))
	says(t, "2")(k.Clean(0))
	has(t, k, "a:0:0")
	whole(t, k)
}

// P143: rows of now, of some keys.
func TestRows(t *testing.T) {
	k := fresh(t, "trunc 10")
	says(t, "4")(k.Append(1, rowsOf("b:5:1 a:15:2 a:5:3 c:-5:4")))
	says(t, "1")(k.Delete(2, []int{15}))
	for _, c := range []struct {
		lo, hi int
		want   string
	}{
		{-big, big, "a:5:3 b:5:1 c:-5:4"}, {math.MinInt, math.MaxInt, "a:5:3 b:5:1 c:-5:4"}, {5, 5, "a:5:3 b:5:1"}, {-5, 4, "c:-5:4"}, {6, 99, ""}, {5, 4, ""}, {math.MaxInt, math.MinInt, ""},
	} {
		want(t, fmt.Sprint(c), rowsTold(k.Rows(c.lo, c.hi)), c.want)
		want(t, fmt.Sprint(c), rowsTold(k.At(k.Now().ID, c.lo, c.hi)), c.want)
	}
	want(t, "At", rowsTold(k.At(6, 10, 19)), "a:15:2")
	// Errors have the place that scan.Rows tells: the file's.
	want(t, "files", files(k), "data/3 n1 1 1, data/4 t0 2 1, data/5 t1 1 1, gone/8 - 1 2")
	right(t, k.Store().Drop("data/4"))
	want(t, "Rows", rowsTold(k.Rows(-big, big)), "none at 1")
	want(t, "At", rowsTold(k.At(6, -big, big)), "none at 1")
	want(t, "Rows", rowsTold(k.Rows(-9, 4)), "c:-5:4")
}

// P143: who reads an older snap has what it had; of one that is none there is nothing.
func TestAt(t *testing.T) {
	k := fresh(t, "part")
	says(t, "2")(k.Append(1, rowsOf("a:1:1 a:2:2")))
	says(t, "1")(k.Delete(2, []int{1}))
	says(t, "1")(k.Append(3, rowsOf("a:1:5")))
	says(t, "1")(k.Pack(41))
	later(t, k, 3)
	before := map[int]string{1: "", 4: "a:1:1 a:2:2", 7: "a:2:2", 10: "a:1:5 a:2:2", 13: "a:1:5 a:2:2"}
	for id := -1; id < 16; id++ {
		wanted, there := before[id]
		if !there {
			wanted = "none"
		}
		want(t, fmt.Sprint(id), rowsTold(k.At(id, -big, big)), wanted)
	}
	for _, id := range []int{math.MinInt, math.MaxInt, big, -big} {
		want(t, fmt.Sprint(id), rowsTold(k.At(id, -big, big)), "none")
	}
	says(t, "3")(k.Expire(0, 2))
	// Its object is there, and it is none.
	text(t, k.Store(), "snap/4")
	want(t, "At", rowsTold(k.At(4, -big, big)), "none")
	want(t, "At", rowsTold(k.At(10, -big, big)), before[10])
	// Errors of what is read are bare.
	right(t, k.Store().Drop("snap/10"))
	want(t, "At", rowsTold(k.At(10, -big, big)), "none")
	putAll(t, k.Store(), "snap/10", snapText("10 7 3 0 3 append", "data/3 a 1 1 1 1\nx\n"))
	want(t, "At", rowsTold(k.At(10, -big, big)), "text")
	has(t, k, before[13])
}

// P143: the last snap up to a day, the day itself too.
func TestThen(t *testing.T) {
	k := days(t, 3, 3, 6, 9)
	later(t, k, 5)
	for day, wanted := range map[int]string{
		math.MinInt: "0", -1: "0", 0: "1", 1: "1", 2: "1", 3: "7", 5: "7", 6: "10", 8: "10", 9: "13", 14: "13", 15: "13", math.MaxInt: "13",
	} {
		says(t, wanted)(k.Then(day))
	}
	says(t, "3")(k.Expire(5, 2))
	for day, wanted := range map[int]string{0: "0", 5: "0", 6: "10", 9: "13"} {
		says(t, wanted)(k.Then(day))
	}
	right(t, k.Store().Drop("snap/10"))
	says(t, "none")(k.Then(6))
	putAll(t, k.Store(), "snap/10", "snap 10 7 3 6 3 append 5\n")
	says(t, "sum")(k.Then(6))
}

// P2: reading goes without power, and counts for nothing.
func TestReadOff(t *testing.T) {
	k := days(t, 1, 2)
	right(t, k.Store().Cut(0))
	says(t, "off")(k.Append(3, nil))
	unchanged(t, k, func() {
		has(t, k, "a:0:0 a:1:0")
		want(t, "At", rowsTold(k.At(4, -big, big)), "a:0:0")
		says(t, "4")(k.Then(1))
		says(t, "0")(k.Append(2, rowsOf("a:9:9")))
		says(t, "bound")(k.Append(0, nil))
	})
}

// P2: the same calls make the same answers, whatever other stores there are.
func TestSame(t *testing.T) {
	var first *Lake
	for range 5 {
		k := days(t, 1, 1, 4, 8)
		says(t, "2")(k.Delete(9, []int{1, 7}))
		says(t, "3")(k.Pack(api.MaxRows + 1))
		says(t, "4")(k.Expire(0, 0))
		if first == nil {
			first = k
		}
		if !store.Same(first.Store(), k.Store()) || fmt.Sprint(first.ids, first.now) != fmt.Sprint(k.ids, k.now) {
			t.Error("another one")
		}
	}
}
