package lake

import (
	"errors"
	"fmt"
	"strconv"
	"strings"
	"testing"

	"deedbox/api"
	"deedbox/store"
)

const big = api.MaxNum

// rowsOf words, each `PART:KEY:VAL`.
func rowsOf(words string) []api.Row {
	var l []api.Row
	for _, word := range strings.Fields(words) {
		p := strings.Split(word, ":")
		key, _ := strconv.Atoi(p[1])
		val, _ := strconv.Atoi(p[2])
		l = append(l, api.Row{Part: p[0], Key: key, Val: val})
	}
	return l
}

func wordsOf(l []api.Row) string {
	var words []string
	for _, r := range l {
		words = append(words, fmt.Sprint(r.Part, ":", r.Key, ":", r.Val))
	}
	return strings.Join(words, " ")
}

// many rows of one Part, their keys from first on.
func many(part string, first, n int) []api.Row {
	var l []api.Row
	for i := range n {
		l = append(l, api.Row{Part: part, Key: first + i, Val: i})
	}
	return l
}

func opened(t *testing.T, st *store.Store, spec string) *Lake {
	t.Helper()
	k, err := Open(st, spec)
	if err != nil || k == nil {
		t.Fatalf("Open: %v", err)
	}
	return k
}

func fresh(t *testing.T, spec string) *Lake {
	t.Helper()
	return opened(t, store.New(), spec)
}

func putAll(t *testing.T, st *store.Store, pairs ...string) {
	t.Helper()
	for i := 0; i < len(pairs); i += 2 {
		if err := st.Put(pairs[i], pairs[i+1]); err != nil {
			t.Fatal(pairs[i], err)
		}
	}
}

func right(t *testing.T, errs ...error) {
	t.Helper()
	for i, err := range errs {
		if err != nil {
			t.Fatal(i, err)
		}
	}
}

// told: a number, or an error with its place.
func told(n int, err error) string {
	if err == nil {
		return strconv.Itoa(n)
	}
	if n != 0 {
		return fmt.Sprint(n, " beside ", err)
	}
	return wrong(err)
}

// wrong: the error's last word, and its place if it has one.
func wrong(err error) string {
	if err == nil {
		return "nothing"
	}
	word := strings.TrimPrefix(err.Error(), "deedbox: ")
	var f *api.Fault
	if errors.As(err, &f) {
		word += " at " + strconv.Itoa(f.At)
	}
	return word
}

func want(t *testing.T, what, got, want string) {
	t.Helper()
	if got != want {
		t.Errorf("%s: %q, not %q", what, got, want)
	}
}

// says: a call's number, or its error.
func says(t *testing.T, wanted string) func(n int, err error) {
	t.Helper()
	return func(n int, err error) {
		t.Helper()
		want(t, "call", told(n, err), wanted)
	}
}

func rowsTold(l []api.Row, err error) string {
	if err != nil && len(l) > 0 {
		return "rows beside an error"
	}
	if err != nil {
		return wrong(err)
	}
	return wordsOf(l)
}

func has(t *testing.T, k *Lake, words string) {
	t.Helper()
	want(t, "rows", rowsTold(k.Rows(-big, big)), words)
}

// files of now: `PATH PART N SEQ`, a comma between.
func files(k *Lake) string {
	var l []string
	for _, f := range k.Now().Files {
		l = append(l, fmt.Sprint(f.Path, " ", f.Part, " ", f.N, " ", f.Seq))
	}
	return strings.Join(l, ", ")
}

func names(k *Lake) string { return strings.Join(k.Store().Names(), " ") }

func text(t *testing.T, st *store.Store, name string) string {
	t.Helper()
	s, err := st.Get(name)
	if err != nil {
		t.Error(name, err)
	}
	return s
}

// whole: what a lake knows is what its store has.
func whole(t *testing.T, k *Lake) {
	t.Helper()
	x := opened(t, k.Store().Copy(), k.spec)
	if a, b := fmt.Sprint(x.head, x.ids, x.now), fmt.Sprint(k.head, k.ids, k.now); a != b {
		t.Errorf("store has %s, lake %s", a, b)
	}
	for _, id := range k.Snaps() {
		if _, err := k.At(id, -big, big); err != nil {
			t.Errorf("snap %d: %v", id, err)
		}
	}
}

// unchanged: does a call leave the table and the store as they were?
func unchanged(t *testing.T, k *Lake, call func()) {
	t.Helper()
	before, head, ids, now := k.st.Copy(), k.head, fmt.Sprint(k.ids), fmt.Sprint(k.now)
	call()
	if !store.Same(before, k.st) {
		t.Error("the store has changed")
	}
	if k.head != head || fmt.Sprint(k.ids) != ids || fmt.Sprint(k.now) != now {
		t.Error("the table has changed")
	}
}

// sameTable: does a call leave the table as it was, whatever objects there are more?
func sameTable(t *testing.T, k *Lake, call func()) {
	t.Helper()
	rows, head, ids, now := rowsTold(k.Rows(-big, big)), k.st.Head(), fmt.Sprint(k.ids), fmt.Sprint(k.now)
	call()
	if k.st.Head() != head || k.head != head || fmt.Sprint(k.ids) != ids || fmt.Sprint(k.now) != now {
		t.Error("the table has changed")
	}
	want(t, "rows", rowsTold(k.Rows(-big, big)), rows)
}

func later(t *testing.T, k *Lake, days int) {
	t.Helper()
	if _, err := k.Store().Next(days); err != nil {
		t.Fatal(err)
	}
}
