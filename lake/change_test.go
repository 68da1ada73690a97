package lake

import (
	"fmt"
	"math"
	"slices"
	"strings"
	"testing"

	"deedbox/api"
	"deedbox/gone"
	"deedbox/row"
	"deedbox/store"
)

// P141: groups by their names, each in files of its own, sorted; one change.
func TestAppend(t *testing.T) {
	for _, c := range []struct{ spec, files, data string }{
		{"part", "data/3 eu 2 1, data/4 us 2 1", "data 2 -5 17 "},
		{"bucket 2", "data/3 b0 1 1, data/4 b1 3 1", "data 1 4 4 "},
		{"trunc 10", "data/3 n1 1 1, data/4 t0 2 1, data/5 t1 1 1", "data 1 -5 -5 "},
	} {
		k := fresh(t, c.spec)
		later(t, k, 3)
		says(t, "4")(k.Append(6, rowsOf("us:4:1 eu:17:2 us:3:3 eu:-5:4")))
		want(t, c.spec, files(k), c.files)
		has(t, k, "eu:-5:4 eu:17:2 us:3:3 us:4:1")
		if s := text(t, k.Store(), "data/3"); !strings.HasPrefix(s, c.data) {
			t.Error(c.spec, s)
		}
		now := k.Now()
		now.Files = nil
		id := 3 + len(k.Now().Files)
		want(t, c.spec, fmt.Sprint(now), fmt.Sprintf("{%d 1 1 3 6 append []}", id))
		want(t, c.spec, fmt.Sprint(k.Snaps(), k.Store().Head()), fmt.Sprintf("[1 %d]meta/%d", id, id+1))
		want(t, c.spec, text(t, k.Store(), k.Store().Head()), fmt.Sprintf("meta 1 %d\n", id))
		whole(t, k)
	}
}

// P141: what is there once more is there twice; rows of one key, and of bounds, too.
func TestAppendSame(t *testing.T) {
	k := fresh(t, "part")
	says(t, "3")(k.Append(1, rowsOf("a:1:1 a:1:1 a:1:0")))
	says(t, "1")(k.Append(2, rowsOf("a:1:1")))
	has(t, k, "a:1:0 a:1:1 a:1:1 a:1:1")
	edge := []api.Row{{Part: "zzzzzzz9", Key: -big, Val: big}, {Part: "0", Key: big, Val: -big}}
	for i, spec := range []string{"trunc 1", "bucket 1000", "part"} {
		k = opened(t, k.Store(), spec)
		says(t, "2")(k.Append(3+i, edge))
	}
	l, err := k.Rows(math.MinInt, math.MaxInt)
	if err != nil || len(l) != 10 {
		t.Error(len(l), err)
	}
	whole(t, k)
}

// P141: files of MaxRows rows, the last one of a group aside.
func TestAppendChunks(t *testing.T) {
	for n, wanted := range map[int]string{
		1: "data/3 a 1 1", 39: "data/3 a 39 1", 40: "data/3 a 40 1", 41: "data/3 a 40 1, data/4 a 1 1", 80: "data/3 a 40 1, data/4 a 40 1", 81: "data/3 a 40 1, data/4 a 40 1, data/5 a 1 1",
	} {
		k := fresh(t, "part")
		l := many("a", -7, n)
		slices.Reverse(l)
		says(t, fmt.Sprint(n))(k.Append(1, l))
		want(t, fmt.Sprint(n), files(k), wanted)
		for i, f := range k.Now().Files {
			if f.Lo != -7+i*api.MaxRows || f.Hi != f.Lo+f.N-1 {
				t.Error(n, f)
			}
		}
		have, err := k.Rows(-big, big)
		if !row.Same(have, l) || err != nil {
			t.Error(n, err)
		}
		whole(t, k)
	}
	// The last file of a group is not filled up by another one's, nor by what comes.
	k := fresh(t, "part")
	says(t, "83")(k.Append(1, append(many("b", 0, 41), many("a", 0, 42)...)))
	says(t, "1")(k.Append(2, many("a", 99, 1)))
	want(t, "files", files(k), "data/3 a 40 1, data/4 a 2 1, data/5 b 40 1, data/6 b 1 1, data/9 a 1 2")
}

// P141: a change without files is one, too: its index is done.
func TestNothing(t *testing.T) {
	k := fresh(t, "part")
	says(t, "0")(k.Append(4, nil))
	want(t, "now", fmt.Sprint(k.Now()), "{3 1 1 0 4 append []}")
	says(t, "0")(k.Append(5, []api.Row{}))
	want(t, "now", fmt.Sprint(k.Now()), "{5 3 2 0 5 append []}")
	says(t, "0")(k.Delete(6, nil))
	want(t, "now", fmt.Sprint(k.Now()), "{7 5 3 0 6 append []}")
	says(t, "0")(k.Delete(7, []int{}))
	want(t, "names", names(k), "meta/10 meta/2 meta/4 meta/6 meta/8 snap/1 snap/3 snap/5 snap/7 snap/9")
	says(t, "0")(k.Append(7, rowsOf("a:1:1")))
	has(t, k, "")
	whole(t, k)
}

// P141, P144: of each index something is done once, and none behind a later one.
func TestIndex(t *testing.T) {
	k := fresh(t, "part")
	says(t, "1")(k.Append(5, rowsOf("a:1:1")))
	unchanged(t, k, func() {
		for _, index := range []int{1, 4, 5} {
			says(t, "0")(k.Append(index, rowsOf("a:2:2")))
			says(t, "0")(k.Delete(index, []int{1}))
		}
	})
	says(t, "1")(k.Delete(6, []int{9}))
	unchanged(t, k, func() {
		says(t, "0")(k.Append(6, rowsOf("a:2:2")))
		says(t, "0")(k.Delete(6, []int{1}))
	})
	says(t, "1")(k.Append(big, rowsOf("a:3:3")))
	unchanged(t, k, func() {
		says(t, "0")(k.Append(big, rowsOf("a:3:3")))
		says(t, "0")(k.Delete(big, []int{3}))
	})
	has(t, k, "a:1:1 a:3:3")
	// Who opens again knows it.
	k = opened(t, k.Store(), "part")
	says(t, "0")(k.Append(big, rowsOf("a:3:3")))
	has(t, k, "a:1:1 a:3:3")
}

// P141: errors of what is told, the index first, then the rows or keys, then whether it is done already.
func TestWrongTold(t *testing.T) {
	k := fresh(t, "part")
	says(t, "1")(k.Append(5, rowsOf("a:1:1")))
	unchanged(t, k, func() {
		for _, index := range []int{0, -1, big + 1, math.MaxInt, math.MinInt} {
			says(t, "bound")(k.Append(index, rowsOf("A:1:1")))
			says(t, "bound")(k.Append(index, nil))
			says(t, "bound")(k.Delete(index, []int{big + 1}))
			says(t, "bound")(k.Delete(index, make([]int, 99)))
		}
		for _, index := range []int{1, 5, 6} {
			says(t, "name at 0")(k.Append(index, []api.Row{{}}))
			says(t, "name at 1")(k.Append(index, rowsOf("a:1:1 A:1:1 b:1:9999999999")))
			says(t, "bound at 2")(k.Append(index, rowsOf("a:1:1 b:1:1 b:1073741825:1 A:1:1")))
			says(t, "bound at 1")(k.Append(index, rowsOf("a:1:1 b:1:-1073741825")))
			says(t, "bound at 0")(k.Delete(index, []int{big + 1}))
			says(t, "bound at 2")(k.Delete(index, []int{1, -big, -big - 1, math.MaxInt}))
			says(t, "full")(k.Delete(index, keysTo(41)))
			says(t, "full")(k.Delete(index, append(keysTo(40), math.MinInt)))
		}
	})
	has(t, k, "a:1:1")
}

func keysTo(n int) []int {
	var keys []int
	for i := range n {
		keys = append(keys, i)
	}
	return keys
}

// P141: keys are in one file, each once; what comes later is not gone.
func TestDelete(t *testing.T) {
	k := fresh(t, "part")
	says(t, "4")(k.Append(1, rowsOf("a:1:1 b:1:2 a:2:3 b:3:4")))
	later(t, k, 2)
	says(t, "3")(k.Delete(2, []int{50, 1, 3, 1, 50}))
	keys, err := gone.Make([]int{1, 3, 50})
	right(t, err)
	want(t, "gone", text(t, k.Store(), "gone/7"), keys)
	want(t, "now", fmt.Sprint(k.Now()), "{8 5 2 2 2 delete [{data/3 a 2 1 2 1} {data/4 b 2 1 3 1} {gone/7 - 3 1 50 2}]}")
	has(t, k, "a:2:3")
	says(t, "2")(k.Append(3, rowsOf("a:1:7 a:50:7")))
	has(t, k, "a:1:7 a:2:3 a:50:7")
	says(t, "1")(k.Delete(4, []int{1}))
	has(t, k, "a:2:3 a:50:7")
	says(t, "40")(k.Delete(5, append(keysTo(40), keysTo(40)...)))
	has(t, k, "a:50:7")
	says(t, "2")(k.Delete(6, []int{big, -big}))
	whole(t, k)
}

// The document's example: a row, its key gone, the row again: one row is there.
func TestExample(t *testing.T) {
	k := fresh(t, "part")
	says(t, "1")(k.Append(1, rowsOf("a:7:1")))
	says(t, "1")(k.Delete(2, []int{7}))
	has(t, k, "")
	says(t, "1")(k.Append(3, rowsOf("a:7:1")))
	has(t, k, "a:7:1")
}

// P141: a list has no room for more files: objects of them are there, that nobody needs.
func TestTooManyFiles(t *testing.T) {
	k := fresh(t, "trunc 1")
	says(t, "59")(k.Append(1, many("a", 0, 59)))
	sameTable(t, k, func() {
		says(t, "full")(k.Append(2, many("a", 100, 2)))
	})
	if n := len(k.Store().Names()); n != 2+59+2+2 {
		t.Error(n)
	}
	says(t, "1")(k.Append(2, many("a", 200, 1)))
	sameTable(t, k, func() {
		says(t, "full")(k.Append(3, many("a", 300, 1)))
		says(t, "full")(k.Delete(3, []int{5}))
	})
	says(t, "0")(k.Append(3, nil))
	whole(t, k)
	// These, and the metas that are none of now.
	says(t, "7")(k.Clean(0))
	whole(t, k)
	if have, err := k.Rows(0, big); len(have) != 60 || err != nil {
		t.Error(len(have), err)
	}
}

// P141: a store has no room: the table is as it was, and goes on when there is some again.
func TestStoreFull(t *testing.T) {
	k := fresh(t, "trunc 1")
	says(t, "1")(k.Append(1, rowsOf("a:1:1")))
	sameTable(t, k, func() {
		says(t, "full")(k.Append(2, many("a", 0, 1000)))
	})
	if n := len(k.Store().Names()); n != api.MaxObjects {
		t.Error(n)
	}
	later(t, k, 1)
	sameTable(t, k, func() {
		says(t, "full")(k.Append(2, nil))
		says(t, "full")(k.Delete(2, []int{1}))
		says(t, "full")(k.Expire(0, 0))
	})
	// One, or two objects: a snap alone, or a meta too, and no more.
	for _, name := range []string{"data/100", "data/101"} {
		sameTable(t, k, func() {
			says(t, "full")(k.Append(2, rowsOf("a:2:2")))
		})
		right(t, k.Store().Drop(name))
	}
	sameTable(t, k, func() {
		says(t, "full")(k.Append(2, rowsOf("a:2:2")))
	})
	says(t, "196")(k.Clean(0))
	says(t, "1")(k.Append(2, rowsOf("a:2:2")))
	has(t, k, "a:1:1 a:2:2")
	whole(t, k)
}

// P141: there are MaxSnaps snaps at most; what is asked of the change comes ahead of that.
func TestTooManySnaps(t *testing.T) {
	k := fresh(t, "part")
	for i := range api.MaxSnaps - 1 {
		says(t, "1")(k.Append(i+1, many("a", i, 1)))
	}
	if len(k.Snaps()) != api.MaxSnaps {
		t.Error(k.Snaps())
	}
	sameTable(t, k, func() {
		objects := len(k.Store().Names())
		says(t, "full")(k.Append(50, nil))
		says(t, "full")(k.Append(50, rowsOf("a:99:99")))
		says(t, "full")(k.Delete(50, []int{0}))
		says(t, "full")(k.Pack(41))
		says(t, "0")(k.Append(1, nil))
		says(t, "name at 0")(k.Append(50, []api.Row{{}}))
		// Files are put ahead of it, and no snap.
		if n := len(k.Store().Names()); n != objects+3 {
			t.Error(n - objects)
		}
	})
	whole(t, k)
	sameTable(t, k, func() {
		putAll(t, k.Store(), "x/1073741824", "x")
		says(t, "bound")(k.Append(50, nil))
		says(t, "name")(k.Append(50, rowsOf("a:99:99")))
		if _, err := k.Clean(0); err != nil {
			t.Error(err)
		}
		says(t, "full")(k.Append(50, nil))
	})
	later(t, k, 1)
	says(t, "1")(k.Expire(0, api.MaxSnaps-1))
	says(t, "38")(k.Pack(41))
	want(t, "snaps", fmt.Sprint(len(k.Snaps())), "40")
	says(t, "39")(k.Expire(0, 0))
	says(t, "1")(k.Append(50, rowsOf("a:99:99")))
	if have, err := k.Rows(-big, big); len(have) != 40 || err != nil {
		t.Error(len(have), err)
	}
	whole(t, k)
}

// P141: small files of a group become one; files of keys that take nothing go; the index stays.
func TestPack(t *testing.T) {
	k := fresh(t, "part")
	says(t, "2")(k.Append(1, rowsOf("a:1:1 b:1:1")))
	says(t, "3")(k.Append(2, rowsOf("a:2:2 a:3:3 c:9:9")))
	says(t, "2")(k.Delete(3, []int{1, 2}))
	says(t, "1")(k.Append(7, rowsOf("b:1:4")))
	later(t, k, 9)
	want(t, "files", files(k), "data/3 a 1 1, data/4 b 1 1, data/7 a 2 2, data/8 c 1 2, data/14 b 1 4, gone/11 - 2 3")
	has(t, k, "a:3:3 b:1:4 c:9:9")
	says(t, "2")(k.Pack(41))
	want(t, "now", fmt.Sprint(k.Now()), "{19 15 5 9 7 rewrite [{data/8 c 1 9 9 2} {data/17 a 1 3 3 4} {data/18 b 1 1 1 4} {gone/11 - 2 1 2 3}]}")
	has(t, k, "a:3:3 b:1:4 c:9:9")
	unchanged(t, k, func() { says(t, "0")(k.Pack(41)) })
	// It is idle when the last older file goes.
	says(t, "1")(k.Append(8, rowsOf("c:1:1")))
	says(t, "1")(k.Pack(2))
	want(t, "files", files(k), "data/17 a 1 4, data/18 b 1 4, data/24 c 2 6, gone/11 - 2 3")
	says(t, "1")(k.Pack(0))
	want(t, "files", files(k), "data/17 a 1 4, data/18 b 1 4, data/24 c 2 6")
	want(t, "op", fmt.Sprint(k.Now().Op, k.Now().Index), "rewrite8")
	has(t, k, "a:3:3 b:1:4 c:1:1 c:9:9")
	whole(t, k)
	// Older snaps have what they had.
	want(t, "At", rowsTold(k.At(9, -big, big)), "a:1:1 a:2:2 a:3:3 b:1:1 c:9:9")
}

// P141: what is packed stays in its group, whatever its rows' Parts are.
func TestPackGroups(t *testing.T) {
	k := fresh(t, "trunc 10")
	says(t, "2")(k.Append(1, rowsOf("eu:1:1 us:-1:1")))
	says(t, "3")(k.Append(2, rowsOf("us:9:2 eu:-10:2 eu:-11:2")))
	want(t, "files", files(k), "data/3 n1 1 1, data/4 t0 1 1, data/7 n1 1 2, data/8 n2 1 2, data/9 t0 1 2")
	says(t, "2")(k.Pack(41))
	want(t, "files", files(k), "data/8 n2 1 2, data/12 n1 2 2, data/13 t0 2 2")
	has(t, k, "eu:-11:2 eu:-10:2 eu:1:1 us:-1:1 us:9:2")
	whole(t, k)
}

// P141: of rows that are all gone nothing is written.
func TestPackAllGone(t *testing.T) {
	k := fresh(t, "part")
	says(t, "1")(k.Append(1, rowsOf("a:1:1")))
	says(t, "1")(k.Append(2, rowsOf("a:2:2")))
	says(t, "2")(k.Delete(3, []int{1, 2}))
	says(t, "2")(k.Pack(41))
	want(t, "files", files(k), "gone/9 - 2 3")
	says(t, "1")(k.Pack(41))
	want(t, "now", fmt.Sprint(k.Now()), "{14 12 5 0 3 rewrite []}")
	unchanged(t, k, func() { says(t, "0")(k.Pack(41)) })
	has(t, k, "")
	whole(t, k)
}

// P141: nothing is removed: nothing is done, not even without power.
func TestPackNothing(t *testing.T) {
	k := fresh(t, "part")
	unchanged(t, k, func() { says(t, "0")(k.Pack(41)) })
	says(t, "80")(k.Append(1, many("a", 0, 80)))
	says(t, "1")(k.Append(2, many("b", 0, 1)))
	says(t, "1")(k.Delete(3, []int{0}))
	unchanged(t, k, func() {
		for least := range api.MaxRows + 2 {
			says(t, "0")(k.Pack(least))
		}
		for _, least := range []int{-1, api.MaxRows + 2, math.MinInt, math.MaxInt} {
			says(t, "bound")(k.Pack(least))
		}
	})
	right(t, k.Store().Cut(0))
	says(t, "off")(k.Append(4, nil))
	unchanged(t, k, func() { says(t, "0")(k.Pack(41)) })
}

// P141: files that are not right any more: the error is bare, and nothing is put.
func TestPackBroken(t *testing.T) {
	for text, wanted := range map[string]string{"": "none", "x": "text", "data 1 1 1 7\na 1 1\n": "sum", "data 0 0 0 0\n": "bound"} {
		k := fresh(t, "part")
		says(t, "1")(k.Append(1, rowsOf("a:1:1")))
		says(t, "2")(k.Append(2, rowsOf("a:2:2 b:1:1")))
		says(t, "1")(k.Append(3, rowsOf("b:2:2")))
		right(t, k.Store().Drop("data/7"))
		if text != "" {
			putAll(t, k.Store(), "data/7", text)
		}
		unchanged(t, k, func() { says(t, wanted)(k.Pack(41)) })
		want(t, "Rows", rowsTold(k.Rows(1, 1)), wanted+" at 2")
	}
}

// P141: two lakes on one store: who comes too late changes nothing.
func TestStale(t *testing.T) {
	st := store.New()
	k := opened(t, st, "part")
	says(t, "1")(k.Append(1, rowsOf("a:1:1")))
	late := opened(t, st, "part")
	says(t, "1")(k.Append(2, rowsOf("a:2:2")))
	later(t, k, 1)
	head := st.Head()
	says(t, "stale")(late.Append(2, rowsOf("a:3:3")))
	says(t, "stale")(late.Delete(2, []int{1}))
	says(t, "stale")(late.Expire(0, 0))
	says(t, "stale")(late.Clean(0))
	says(t, "bound")(late.Clean(-1))
	want(t, "head", st.Head(), head)
	has(t, late, "a:1:1")
	want(t, "snaps", fmt.Sprint(late.Snaps()), "[1 4]")
	has(t, k, "a:1:1 a:2:2")
	whole(t, k)
	late = opened(t, st, "part")
	has(t, late, "a:1:1 a:2:2")
	says(t, "1")(late.Append(3, rowsOf("a:3:3")))
	says(t, "2")(late.Pack(41))
	says(t, "stale")(k.Pack(41))
	has(t, late, "a:1:1 a:2:2 a:3:3")
	whole(t, late)
}
