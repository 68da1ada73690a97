package script

import (
	"math/rand"
	"slices"
	"strconv"
	"strings"
	"sync"
	"testing"

	"deedbox/api"
	"deedbox/lake"
	"deedbox/store"
)

// turn of a script: a line, and what a lake answers to it when it is called by hand.
type turn struct {
	line string
	call func(k *lake.Lake) (string, error)
}

func counted(n int, err error) (string, error) { return strconv.Itoa(n), err }

func wordsOf(l []api.Row) string {
	var words []string
	for _, r := range l {
		words = append(words, r.Part+":"+strconv.Itoa(r.Key)+":"+strconv.Itoa(r.Val))
	}
	return strings.Join(words, ",")
}

func listed(words string) string {
	if words == "" {
		return "nothing"
	}
	return strings.ReplaceAll(words, ",", " ")
}

func written(words string) string {
	if words == "" {
		return "-"
	}
	return words
}

func anyRows(rnd *rand.Rand) []api.Row {
	var l []api.Row
	for range rnd.Intn(5) {
		l = append(l, api.Row{Part: string(rune('a' + rnd.Intn(3))), Key: rnd.Intn(20) - 10, Val: rnd.Intn(5) - 2})
	}
	if rnd.Intn(9) == 0 {
		l = append(l, api.Row{Part: "A"})
	}
	return l
}

func anyChange(rnd *rand.Rand, index int) turn {
	at := strconv.Itoa(index)
	if rnd.Intn(3) > 0 {
		l := anyRows(rnd)
		return turn{"append " + at + " " + written(wordsOf(l)), func(k *lake.Lake) (string, error) { return counted(k.Append(index, l)) }}
	}
	var keys []int
	var words []string
	for range rnd.Intn(5) {
		keys = append(keys, rnd.Intn(20)-10)
		words = append(words, strconv.Itoa(keys[len(keys)-1]))
	}
	return turn{"delete " + at + " " + written(strings.Join(words, ",")), func(k *lake.Lake) (string, error) { return counted(k.Delete(index, keys)) }}
}

func anyQuestion(rnd *rand.Rand) turn {
	lo, hi, id := rnd.Intn(20)-10, rnd.Intn(20)-10, rnd.Intn(60)
	return []turn{
		{"rows " + strconv.Itoa(lo) + " " + strconv.Itoa(hi), func(k *lake.Lake) (string, error) {
			l, err := k.Rows(lo, hi)
			return listed(wordsOf(l)), err
		}},
		{"at " + strconv.Itoa(id) + " -9 9", func(k *lake.Lake) (string, error) {
			l, err := k.At(id, -9, 9)
			return listed(wordsOf(l)), err
		}},
		{"then " + strconv.Itoa(lo), func(k *lake.Lake) (string, error) { return counted(k.Then(lo)) }},
		{"objects", func(k *lake.Lake) (string, error) { return counted(len(k.Store().Names()), nil) }},
		{"snaps", func(k *lake.Lake) (string, error) {
			var words []string
			for _, id := range k.Snaps() {
				words = append(words, strconv.Itoa(id))
			}
			return strings.Join(words, " "), nil
		}},
		{"files", func(k *lake.Lake) (string, error) {
			var words []string
			for _, f := range k.Now().Files {
				words = append(words, f.Path)
			}
			return listed(strings.Join(words, " ")), nil
		}},
	}[rnd.Intn(6)]
}

func anyOther(rnd *rand.Rand, cuts bool) turn {
	n, count := rnd.Intn(45)-1, rnd.Intn(6)
	word := strconv.Itoa(n)
	l := []turn{
		{"pack " + word, func(k *lake.Lake) (string, error) { return counted(k.Pack(n)) }},
		{"expire " + word + " " + strconv.Itoa(count), func(k *lake.Lake) (string, error) { return counted(k.Expire(n, count)) }},
		{"clean " + strconv.Itoa(count), func(k *lake.Lake) (string, error) { return counted(k.Clean(count)) }},
		{"days " + word, func(k *lake.Lake) (string, error) { return counted(k.Store().Next(n)) }},
		{"on", func(k *lake.Lake) (string, error) { k.Store().On(); return "ok", nil }},
		{"cut " + word, func(k *lake.Lake) (string, error) { return "ok", k.Store().Cut(n) }},
	}
	if !cuts {
		l = l[:5]
	}
	return l[rnd.Intn(len(l))]
}

func anyTurns(seed, n int, cuts bool) []turn {
	rnd := rand.New(rand.NewSource(int64(seed)))
	var l []turn
	for i := range n {
		switch kind := rnd.Intn(9); {
		case kind < 4:
			l = append(l, anyChange(rnd, i/2+rnd.Intn(3)))
		case kind < 7:
			l = append(l, anyQuestion(rnd))
		default:
			l = append(l, anyOther(rnd, cuts))
		}
	}
	return l
}

func linesOf(l []turn) []string {
	var lines []string
	for _, x := range l {
		lines = append(lines, x.line)
	}
	return lines
}

func byHand(t *testing.T, spec string, l []turn) []string {
	t.Helper()
	k, err := lake.Open(store.New(), spec)
	if err != nil {
		t.Fatal(err)
	}
	var answers []string
	for _, x := range l {
		answer, err := x.call(k)
		if err != nil {
			answer = err.Error()
		}
		answers = append(answers, answer)
	}
	return answers
}

func same(t *testing.T, what string, lines, got, want []string) {
	t.Helper()
	for i := range max(len(got), len(want)) {
		if i >= len(got) || i >= len(want) || got[i] != want[i] {
			t.Fatalf("%s: answers are not the same from line %d of %q on: %q, not %q", what, i, lines, got[min(i, len(got)):], want[min(i, len(want)):])
		}
	}
}

var specs = []string{"part", "bucket 3", "trunc 5"}

// P150, P151: a script's answers are those of a lake that is called by hand.
func TestByHand(t *testing.T) {
	for seed := range 200 {
		l, spec := anyTurns(seed, api.MaxScript, true), specs[seed%3]
		same(t, "by hand", linesOf(l), played(t, spec, linesOf(l)), byHand(t, spec, l))
	}
}

// P152: the same lines make the same answers, also where scripts are played at one time.
func TestSame(t *testing.T) {
	for seed := range 30 {
		lines, spec := linesOf(anyTurns(seed, api.MaxScript, true)), specs[seed%3]
		want := played(t, spec, lines)
		answers := make([][]string, 4)
		var group sync.WaitGroup
		for i := range answers {
			group.Go(func() { answers[i], _ = Play(spec, lines) })
		}
		group.Wait()
		for _, got := range answers {
			same(t, "at one time", lines, got, want)
		}
	}
}

// P152: fewer lines have the answers that they had.
func TestFewerLines(t *testing.T) {
	lines := linesOf(anyTurns(7, 40, true))
	want := played(t, "part", lines)
	for n := range lines {
		same(t, "fewer", lines[:n], played(t, "part", lines[:n]), want[:n])
	}
}

// P152: `again`, anywhere, changes no answer of another line. (It turns power on, as lake.Open does: here, power is never cut.)
func TestAgainChangesNothing(t *testing.T) {
	for seed := range 100 {
		rnd := rand.New(rand.NewSource(int64(seed)))
		lines, spec := linesOf(anyTurns(seed, api.MaxScript/2, false)), specs[seed%3]
		want := played(t, spec, lines)
		var more []string
		var places []int
		for _, line := range lines {
			if rnd.Intn(2) == 0 || seed == 0 {
				more = append(more, "again")
			}
			places = append(places, len(more))
			more = append(more, line)
		}
		all := played(t, spec, more)
		var got []string
		for i, answer := range all {
			if slices.Contains(places, i) {
				got = append(got, answer)
			} else if answer != "ok" {
				t.Fatal(seed, i, answer)
			}
		}
		same(t, "again", more, got, want)
	}
}

// P1: any lines have an answer each.
func TestAnyLines(t *testing.T) {
	pieces := strings.Split("append delete pack expire clean rows at then days snaps files objects cut again on 0 1 2 9 -1 41 99999999999 -9999999999 1073741825 - , : a:1:1 us:5:2,eu:3:3 A:1:1 x \x00 \xff é 1,2,3", " ")
	for seed := range 300 {
		rnd := rand.New(rand.NewSource(int64(seed)))
		var lines []string
		for range api.MaxScript {
			var words []string
			for range 1 + rnd.Intn(4) {
				words = append(words, pieces[rnd.Intn(len(pieces))])
			}
			lines = append(lines, strings.Join(words, []string{" ", " ", " ", "", ","}[rnd.Intn(5)]))
		}
		for i, got := range played(t, specs[seed%3], lines) {
			if got == "" || strings.HasPrefix(got, " ") || strings.HasSuffix(got, " ") {
				t.Error(lines[i], got)
			}
		}
	}
}

// P1: lines that are very long end, too.
func TestLongLines(t *testing.T) {
	many := 20000
	long := []string{
		"append 1 " + strings.TrimSuffix(strings.Repeat("a:1:1,", many), ","), "objects", "append 1 " + strings.Repeat("a:1:1,", many), "delete 1 " + strings.TrimSuffix(strings.Repeat("7,", many), ","), "rows 1" + strings.Repeat("0", many) + " 1", "append 1 " + strings.Repeat("a", many) + ":1:1", strings.Repeat("rows ", many),
	}
	for i, want := range []string{"full!", "200", "text!", "full!", "text!", "name!", "text!"} {
		if got := played(t, "part", long)[i]; got != answerOf(want) {
			t.Errorf("%d: %q, not %q", i, got, want)
		}
	}
}
