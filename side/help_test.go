package side

import (
	"errors"
	"math/rand"
	"slices"
	"strconv"
	"strings"
	"testing"

	"deedbox/api"
	"deedbox/lake"
	"deedbox/plain"
	"deedbox/store"
)

const big = api.MaxNum

// told: a call's error, as its last word, with its place if it has one.
func told(err error) string {
	if err == nil {
		return "nothing"
	}
	word := strings.TrimPrefix(err.Error(), "deedbox: ")
	if _, at := plain.Code(err); at >= 0 {
		return word + " at " + strconv.Itoa(at)
	}
	return word
}

// wrong: is it this error, without an answer beside it, and without a second place?
func wrong[A any](t *testing.T, what string, answers []A, err error, want string) {
	t.Helper()
	if told(err) != want || len(answers) != 0 {
		t.Errorf("%s: %v %q, not %q", what, answers, told(err), want)
	}
	var outer, inner *api.Fault
	if errors.As(err, &outer) && errors.As(outer.Err, &inner) {
		t.Errorf("%s: a place in %d is told: %d", what, outer.At, inner.At)
	}
}

// right: are these the answers, and is there no error?
func right[A comparable](t *testing.T, what string, answers []A, err error, want ...A) {
	t.Helper()
	if err != nil || !slices.Equal(answers, want) {
		t.Errorf("%s: %v %v, not %v", what, answers, err, want)
	}
}

// table with three files of rows and one of keys: of eu -5 and 3, of us 3 and 9, of eu 20; 3 is gone from the first two.
func table(t *testing.T) (*store.Store, api.Snap) {
	t.Helper()
	st := store.New()
	k, err := lake.Open(st, "part")
	if err != nil {
		t.Fatal(err)
	}
	_, e1 := k.Append(1, []api.Row{{Part: "eu", Key: -5, Val: 1}, {Part: "eu", Key: 3, Val: 2}, {Part: "us", Key: 3, Val: 3}, {Part: "us", Key: 9, Val: 4}})
	_, e2 := k.Delete(2, []int{3})
	_, e3 := k.Append(3, []api.Row{{Part: "eu", Key: 20, Val: 5}})
	if err := errors.Join(e1, e2, e3); err != nil || len(k.Now().Files) != 4 {
		t.Fatal(err, k.Now())
	}
	return st, k.Now()
}

// anew: a copy of a store in which an object is another one.
func anew(t *testing.T, st *store.Store, name, text string) *store.Store {
	t.Helper()
	c := without(t, st, name)
	if err := c.Put(name, text); err != nil {
		t.Fatal(name, err)
	}
	return c
}

func without(t *testing.T, st *store.Store, name string) *store.Store {
	t.Helper()
	c := st.Copy()
	if err := c.Drop(name); err != nil {
		t.Fatal(name, err)
	}
	return c
}

// anyTable with files of rows and of keys.
func anyTable(t *testing.T, rnd *rand.Rand) (*store.Store, api.Snap) {
	t.Helper()
	st := store.New()
	k, err := lake.Open(st, []string{"part", "bucket 3", "trunc 7"}[rnd.Intn(3)])
	if err != nil {
		t.Fatal(err)
	}
	for index := range 1 + rnd.Intn(9) {
		var l []api.Row
		for range rnd.Intn(12) {
			l = append(l, api.Row{Part: string(rune('a' + rnd.Intn(3))), Key: rnd.Intn(40) - 20, Val: rnd.Intn(9)})
		}
		_, e1 := k.Append(2*index+1, l)
		_, e2 := k.Delete(2*index+2, []int{rnd.Intn(40) - 20})
		if err := errors.Join(e1, e2); err != nil {
			t.Fatal(err)
		}
	}
	return st, k.Now()
}

func anyPairs(rnd *rand.Rand, n int) [][2]int {
	var l [][2]int
	for range n {
		l = append(l, [2]int{rnd.Intn(50) - 25, rnd.Intn(50) - 25})
	}
	return l
}

func anyScript(rnd *rand.Rand) []string {
	number := func(n int) string { return strconv.Itoa(rnd.Intn(n)) }
	var lines []string
	for i := range rnd.Intn(api.MaxScript) {
		lines = append(lines, []string{
			"append " + strconv.Itoa(i+1) + " a:" + number(9) + ":1,b:" + number(9) + ":2",
			"delete " + strconv.Itoa(i+1) + " " + number(9),
			"rows 0 " + number(9),
			"at " + number(50) + " 0 9",
			"pack " + number(41),
			"expire 0 " + number(5),
			"clean 0",
			"days " + number(3),
			"files", "snaps", "objects", "again", "on", "what",
			"cut " + number(900),
		}[rnd.Intn(15)])
	}
	return lines
}
