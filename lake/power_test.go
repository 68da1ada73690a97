package lake

import (
	"fmt"
	"math/rand"
	"slices"
	"strings"
	"testing"

	"deedbox/api"
	"deedbox/row"
	"deedbox/store"
)

// step of a table's life: what it does to a lake, and to the rows that there should be.
type step struct {
	do    func(k *Lake) (int, error)
	model func(l []api.Row) []api.Row
}

func appends(index int, words string) step {
	l := rowsOf(words)
	return step{
		do:    func(k *Lake) (int, error) { return k.Append(index, l) },
		model: func(there []api.Row) []api.Row { return row.Sort(slices.Concat(there, l)) },
	}
}

func deletes(index int, keys ...int) step {
	return step{
		do:    func(k *Lake) (int, error) { return k.Delete(index, keys) },
		model: func(there []api.Row) []api.Row { return row.Drop(there, keys) },
	}
}

func keeps(do func(k *Lake) (int, error)) step {
	return step{do: do, model: func(l []api.Row) []api.Row { return l }}
}

func life() []step {
	return []step{
		appends(1, "us:5:1 eu:7:2"),
		appends(2, "us:6:1 us:5:9"),
		deletes(3, 5),
		appends(4, "us:5:3 eu:8:8"),
		keeps(func(k *Lake) (int, error) { return k.Pack(41) }),
		keeps(func(k *Lake) (int, error) { return k.Expire(0, 3) }),
		keeps(func(k *Lake) (int, error) { return k.Clean(0) }),
		deletes(9, 7, 99),
		appends(10, ""),
		keeps(func(k *Lake) (int, error) { return k.Pack(41) }),
		keeps(func(k *Lake) (int, error) { return k.Pack(41) }),
		keeps(func(k *Lake) (int, error) { return k.Clean(0) }),
	}
}

// bytesOf a life: how many are written by all of it.
func bytesOf(t *testing.T, spec string) int {
	t.Helper()
	least, most := 0, 10000
	for least < most {
		n := (least + most) / 2
		k := fresh(t, spec)
		right(t, k.Store().Cut(n))
		for _, s := range life() {
			_, _ = s.do(k)
		}
		if k.Store().Power() {
			most = n
		} else {
			least = n + 1
		}
	}
	return least
}

// P144: wherever power is cut, what was told to be done is there, and nothing else; what failed may be told again, and is done then.
func TestCuts(t *testing.T) {
	for i, spec := range []string{"part", "bucket 2", "trunc 3"} {
		n := bytesOf(t, spec)
		if n < 1000 || n > 5000 {
			t.Fatal(spec, n)
		}
		for cut := 0; cut < n+2; cut += 1 + 2*i {
			live(t, spec, cut, n)
		}
	}
}

// live through it all, with one cut.
func live(t *testing.T, spec string, cut, n int) {
	t.Helper()
	k := fresh(t, spec)
	right(t, k.Store().Cut(cut))
	var there []api.Row
	failed := 0
	for i, s := range life() {
		before := fmt.Sprint(k.head, k.ids, k.now)
		if _, err := s.do(k); err != nil {
			failed++
			if wrong(err) != "off" || k.Store().Power() || fmt.Sprint(k.head, k.ids, k.now) != before {
				t.Fatal(spec, cut, i, err)
			}
			k = opened(t, k.Store(), spec)
			if have, err := k.Rows(-big, big); !row.Same(have, there) || err != nil || fmt.Sprint(k.head, k.ids, k.now) != before {
				t.Fatal(spec, cut, i, have, there, err)
			}
			if _, err := s.do(k); err != nil {
				t.Fatal(spec, cut, i, err)
			}
		}
		there = s.model(there)
		have, err := k.Rows(-big, big)
		if !slices.Equal(have, row.Sort(there)) || err != nil {
			t.Fatal(spec, cut, i, have, there, err)
		}
	}
	if (failed == 1) != (cut < n) {
		t.Error(spec, cut, failed)
	}
	whole(t, k)
	if _, err := k.Clean(0); err != nil {
		t.Error(err)
	}
	whole(t, k)
}

// P144: also where a new table is begun: it is there, or is begun again. (Open takes a Cut away, so a store that was cut on the way is made by hand.)
func TestBegunAgain(t *testing.T) {
	for _, pieces := range []string{"snap/1=", "snap/1=snap 1 0", "snap/1=snap 1 0 0 0 0 start 0\n", "snap/1=snap 1 0 0 0 0 start 0\n;meta/2=", "snap/1=snap 1 0 0 0 0 start 0\n;meta/2=meta", "snap/1=snap 1 0 0 0 0 start 0\n;meta/2=meta 1\n"} {
		st := store.New()
		for piece := range strings.SplitSeq(pieces, ";") {
			name, text, _ := strings.Cut(piece, "=")
			putAll(t, st, name, text)
		}
		n := len(st.Names())
		k := opened(t, st, "part")
		want(t, pieces, fmt.Sprint(k.Snaps(), st.Head()), fmt.Sprintf("[%d]meta/%d", n+1, n+2))
		says(t, "1")(k.Append(1, rowsOf("a:1:1")))
		has(t, k, "a:1:1")
		says(t, fmt.Sprint(n+1))(k.Clean(0))
		whole(t, k)
	}
}

// P144: power comes back without opening again: the lake goes on.
func TestPowerComesBack(t *testing.T) {
	k := fresh(t, "part")
	for i := range 90 {
		right(t, k.Store().Cut(i*3))
		_, err := k.Append(1, rowsOf("a:1:1"))
		if err == nil {
			break
		}
		want(t, "Append", wrong(err), "off")
		says(t, "off")(k.Append(1, nil))
		says(t, "off")(k.Delete(1, []int{1}))
		k.Store().On()
	}
	k.Store().On()
	says(t, "0")(k.Append(1, rowsOf("a:1:1")))
	has(t, k, "a:1:1")
	whole(t, k)
}

// world is a plain way to know what a lake has.
type world struct {
	rows  []api.Row
	index int
	snaps map[int][]api.Row
	born  map[int]int
}

func anyRows(rnd *rand.Rand) []api.Row {
	var l []api.Row
	for range rnd.Intn(6) {
		l = append(l, api.Row{Part: string(rune('a' + rnd.Intn(3))), Key: rnd.Intn(20) - 10, Val: rnd.Intn(3)})
	}
	if rnd.Intn(8) == 0 {
		l = append(l, many("m", rnd.Intn(9), 35+rnd.Intn(20))...)
	}
	return l
}

func anyKeys(rnd *rand.Rand) []int {
	var l []int
	for range rnd.Intn(6) {
		l = append(l, rnd.Intn(20)-10)
	}
	return l
}

// turn of a world, as the document tells it: the answer, and whether a snap is made.
func (w *world) turn(rnd *rand.Rand, k *Lake) (answer string, call func() (int, error), done func()) {
	index := w.index + rnd.Intn(4) - 1
	late := index <= w.index
	switch kind := rnd.Intn(12); {
	case kind < 5:
		l := anyRows(rnd)
		call = func() (int, error) { return k.Append(index, l) }
		answer, done = fmt.Sprint(len(l)), func() { w.rows, w.index = slices.Concat(w.rows, l), index }
	case kind < 8:
		keys := anyKeys(rnd)
		once := slices.Compact(slices.Sorted(slices.Values(keys)))
		call = func() (int, error) { return k.Delete(index, keys) }
		answer, done = fmt.Sprint(len(once)), func() { w.rows, w.index = row.Drop(w.rows, keys), index }
	case kind < 9:
		return "", func() (int, error) { return k.Pack(rnd.Intn(42)) }, func() {}
	case kind < 10:
		return "", func() (int, error) { return k.Expire(rnd.Intn(3), rnd.Intn(5)) }, func() {}
	case kind < 11:
		return "", func() (int, error) { return k.Clean(rnd.Intn(3)) }, func() {}
	default:
		return "", func() (int, error) { return k.Store().Next(rnd.Intn(2)) }, func() {}
	}
	if index < 1 {
		return "bound", call, func() {}
	}
	if late {
		return "0", call, func() {}
	}
	return answer, call, done
}

// note what the snaps of now have, so that it can be asked later.
func (w *world) note(k *Lake) {
	id := k.Now().ID
	if _, there := w.snaps[id]; !there {
		w.snaps[id], w.born[id] = row.Sort(w.rows), k.Store().Day()
	}
}

func (w *world) check(t *testing.T, k *Lake) {
	t.Helper()
	w.note(k)
	for _, id := range k.Snaps() {
		have, err := k.At(id, -big, big)
		if err != nil || !slices.Equal(have, w.snaps[id]) {
			t.Fatal(id, have, w.snaps[id], err)
		}
	}
	have, err := k.Rows(-3, 4)
	if err != nil || !slices.Equal(have, row.Within(row.Sort(w.rows), -3, 4)) {
		t.Fatal(have, w.rows, err)
	}
	day := k.Store().Day() - 1
	last := 0
	for _, id := range k.Snaps() {
		if w.born[id] <= day {
			last = id
		}
	}
	says(t, fmt.Sprint(last))(k.Then(day))
	if k.Now().Index != w.index || k.Now().ID != k.Snaps()[len(k.Snaps())-1] {
		t.Fatal(k.Now(), w.index)
	}
}

// P144: any calls, with cuts, held against a plain way: all snaps have what they had, until they go.
func TestAnything(t *testing.T) {
	for seed := range 90 {
		rnd := rand.New(rand.NewSource(int64(seed)))
		spec := []string{"part", "bucket 3", "trunc 5"}[seed%3]
		k := fresh(t, spec)
		w := &world{snaps: map[int][]api.Row{}, born: map[int]int{}}
		w.note(k)
		for range 60 {
			if rnd.Intn(3) == 0 && k.Store().Power() {
				right(t, k.Store().Cut(rnd.Intn(300)))
			}
			answer, call, done := w.turn(rnd, k)
			got := told(call())
			switch {
			case got == "off" || got == "full":
				k = opened(t, k.Store(), spec)
			case answer != "" && got != answer:
				t.Fatal(seed, got, answer)
			default:
				done()
			}
			if got == "full" {
				makeRoom(t, k)
			}
			w.check(t, k)
		}
	}
}

// makeRoom: fewer files, snaps and objects, as somebody would who is told that something is full.
func makeRoom(t *testing.T, k *Lake) {
	t.Helper()
	k.Store().On()
	for _, call := range []func() (int, error){
		func() (int, error) { return k.Clean(0) },
		func() (int, error) { later(t, k, 1); return k.Expire(0, 1) },
		func() (int, error) { return k.Pack(41) },
		func() (int, error) { return k.Clean(0) },
	} {
		if _, err := call(); err != nil {
			t.Fatal(err)
		}
	}
}
