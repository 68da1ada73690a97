package script

import (
	"slices"
	"strings"
	"testing"

	"deedbox/api"
	"deedbox/lake"
	"deedbox/store"
)

// P150: how many lines there may be, ahead of what the spec is.
func TestBounds(t *testing.T) {
	full := slices.Repeat([]string{"objects"}, api.MaxScript)
	for _, got := range played(t, "part", full) {
		if got != "2" {
			t.Error(got)
		}
	}
	for _, spec := range []string{"part", "x", "bucket 0"} {
		wrong(t, spec, append(full, "objects"), api.ErrBound)
		wrong(t, spec, make([]string, api.MaxScript+1), api.ErrBound)
		wrong(t, spec, make([]string, 5000), api.ErrBound)
	}
}

// P150: part.Check's errors, also where there are no lines.
func TestSpecs(t *testing.T) {
	for spec, want := range map[string]error{
		"": api.ErrText, "x": api.ErrText, "part 1": api.ErrText, "bucket": api.ErrText, "bucket 01": api.ErrText, "trunc -1": api.ErrText,
		"bucket 0": api.ErrBound, "trunc 0": api.ErrBound, "trunc 1001": api.ErrBound,
	} {
		wrong(t, spec, nil, want)
		wrong(t, spec, []string{"snaps"}, want)
		wrong(t, spec, []string{"what"}, want)
	}
}

// P150: no lines have no answers.
func TestNoLines(t *testing.T) {
	for _, lines := range [][]string{nil, {}} {
		if l, err := Play("part", lines); len(l) != 0 || err != nil {
			t.Error(l, err)
		}
	}
}

// P150: a script begins with a table of its own, by its spec.
func TestFresh(t *testing.T) {
	for spec, files := range map[string]string{"part": "data/3 data/4", "bucket 1": "data/3", "trunc 10": "data/3 data/4 data/5"} {
		for range 2 {
			checkText(t, spec, `
				objects = 2
				snaps = 1
				files = nothing
				rows -1073741824 1073741824 = nothing
				days 0 = 0
				append 1 eu:-5:1,us:3:2,us:17:3 = 3
				files = `+files+`
				rows -5 17 = eu:-5:1 us:3:2 us:17:3
			`)
		}
	}
}

// P150: rows are told as they are told of, sorted; keys may stand more than once.
func TestRows(t *testing.T) {
	checkText(t, "part", `
		append 1 us:5:1 = 1
		append 2 us:5:1,eu:9:-7,us:5:0,0:-1073741824:1073741824 = 4
		append 3 zzzzzzz9:1073741824:-1073741824 = 1
		rows -1073741824 1073741824 = 0:-1073741824:1073741824 eu:9:-7 us:5:0 us:5:1 us:5:1 zzzzzzz9:1073741824:-1073741824
		rows -9999999999 99999999999 = 0:-1073741824:1073741824 eu:9:-7 us:5:0 us:5:1 us:5:1 zzzzzzz9:1073741824:-1073741824
		rows 5 5 = us:5:0 us:5:1 us:5:1
		rows 5 9 = eu:9:-7 us:5:0 us:5:1 us:5:1
		rows 6 8 = nothing
		rows 9 5 = nothing
		delete 4 5 = 1
		rows 5 9 = eu:9:-7
		delete 5 9,-1073741824,9,44 = 3
		rows -1073741824 1073741824 = zzzzzzz9:1073741824:-1073741824
		append 6 eu:9:1 = 1
		rows 9 9 = eu:9:1
	`)
}

// P150: `-` is a list without rows, or keys: its index is done all the same.
func TestNothing(t *testing.T) {
	checkText(t, "part", `
		append 1 - = 0
		snaps = 1 3
		append 1 a:1:1 = 0
		delete 4 - = 0
		snaps = 1 3 5
		append 3 a:1:1 = 0
		delete 4 1 = 0
		files = nothing
		rows 0 9 = nothing
		append 5 a:1:1 = 1
		files = data/7
		objects = 9
		append 1073741824 a:2:2 = 1
		append 1073741824 a:3:3 = 0
		rows 1 9 = a:1:1 a:2:2
	`)
}

// P150: older snaps, and the snap of a day.
func TestSnaps(t *testing.T) {
	checkText(t, "part", `
		days 2 = 2
		append 1 a:1:1 = 1
		days 3 = 5
		append 2 a:2:2 = 1
		delete 3 1 = 1
		days 0 = 5
		days 1 = 6
		snaps = 1 4 7 10
		at 1 0 9 = nothing
		at 4 0 9 = a:1:1
		at 7 0 9 = a:1:1 a:2:2
		at 7 2 9 = a:2:2
		at 7 9 2 = nothing
		at 10 0 9 = a:2:2
		at 0 0 9 = none!
		at 5 0 9 = none!
		at -7 0 9 = none!
		at 99999999999 0 9 = none!
		then -1 = 0
		then -9999999999 = 0
		then 0 = 1
		then 1 = 1
		then 2 = 4
		then 4 = 4
		then 5 = 10
		then 99999999999 = 10
	`)
}

// P150: fewer files, snaps, objects.
func TestFewer(t *testing.T) {
	checkText(t, "part", `
		append 1 a:1:1 = 1
		append 2 a:2:2,b:5:5 = 2
		append 3 a:3:3 = 1
		delete 4 5 = 1
		files = data/3 data/6 data/7 data/10 gone/13
		pack 1 = 0
		pack 2 = 2
		files = data/7 data/16 gone/13
		snaps = 1 4 8 11 14 17
		pack 41 = 0
		pack 0 = 0
		rows 0 9 = a:1:1 a:2:2 a:3:3
		expire 0 0 = 0
		days 1 = 1
		expire 1 0 = 0
		expire 0 9 = 0
		expire 0 2 = 4
		snaps = 14 17
		expire 0 2 = 0
		expire 0 0 = 1
		snaps = 17
		objects = 20
		clean 2 = 0
		clean 1 = 14
		objects = 6
		clean 0 = 1
		objects = 5
		clean 0 = 0
		files = data/7 data/16 gone/13
		rows 0 9 = a:1:1 a:2:2 a:3:3
		at 14 0 9 = none!
	`)
}

// P150: power that is cut, on the way and between; what failed may be told again.
func TestPower(t *testing.T) {
	checkText(t, "part", `
		append 1 a:1:1 = 1
		cut 0 = ok
		append 2 a:2:2 = off!
		objects = 6
		append 2 a:2:2 = off!
		append 1 - = 0
		append 2 - = off!
		delete 2 1 = off!
		cut 3 = off!
		cut -1 = bound!
		days 1 = 1
		rows 0 9 = a:1:1
		files = data/3
		then 0 = 4
		clean 0 = off!
		pack 41 = 0
		on = ok
		append 2 a:2:2 = 1
		rows 0 9 = a:1:1 a:2:2
		snaps = 1 4 8
		on = ok
		cut 9 = ok
		cut 9999 = ok
		append 3 a:3:3 = 1
		cut 60 = ok
		on = ok
		append 4 a:4:4 = 1
		rows 0 9 = a:1:1 a:2:2 a:3:3 a:4:4
	`)
}

// P150: `again` is lake.Open: power is on, and no cut waits; the lines behind it go to what is open now.
func TestAgain(t *testing.T) {
	checkText(t, "trunc 10", `
		again = ok
		objects = 2
		append 1 a:1:1 = 1
		cut 30 = ok
		append 2 a:2:2,b:33:3 = off!
		again = ok
		rows 0 99 = a:1:1
		append 2 a:2:2,b:33:3 = 2
		files = data/3 data/8 data/9
		cut 0 = ok
		again = ok
		append 3 a:3:3 = 1
		again = ok
		again = ok
		append 3 a:4:4 = 0
		delete 4 1 = 1
		snaps = 1 4 10 13 16
		again = ok
		pack 41 = 2
		rows 0 99 = a:2:2 a:3:3 b:33:3
		at 10 0 99 = a:1:1 a:2:2 b:33:3
		days 5 = 5
		again = ok
		days 0 = 5
		expire 1 1 = 5
		clean 0 = 16
		again = ok
		rows 0 99 = a:2:2 a:3:3 b:33:3
	`)
}

// P150: what `again` opens is another lake, of the same store.
func TestAgainOpens(t *testing.T) {
	st := store.New()
	k, err := lake.Open(st, "part")
	if err != nil {
		t.Fatal(err)
	}
	p := &player{Lake: k, spec: "part"}
	if got := p.answer(commands(), "again"); got != "ok" || p.Lake == k || p.Store() != st {
		t.Error(got, p.Lake == k)
	}
	// One that cannot be opened leaves the player as it was.
	if err := st.Drop(st.Head()); err != nil {
		t.Fatal(err)
	}
	k = p.Lake
	if got := p.answer(commands(), "again"); got != "deedbox: text" || p.Lake != k {
		t.Error(got, p.Lake)
	}
}

// P151: lines that are none: each is told so, and changes nothing.
func TestWrongLines(t *testing.T) {
	lines := []string{
		"", " ", "  ", "what", "what 1", "APPEND 9 -", "Rows 1 2", "row 1 2", "rows\t1\t2", "rows\n", "on\x00", "\xff", "ok", "nothing", "-", "1",
		"append", "append ", "append 9", "append 9 ", "append 9 - ", "append 9 - -", " append 9 -", "append  9 -", "append 9  -", "append - 9",
		"append x -", "append 09 -", "append +9 -", "append -0 -", "append 9.0 -", "append 1e3 -", "append 100000000000 -", "append 9, -", "append ٣ -",
		"append 9 us", "append 9 us:1", "append 9 us:1:1:1", "append 9 us:1:", "append 9 us::1", "append 9 us:1:x", "append 9 us:x:1", "append 9 us:01:1", "append 9 us:1:-0", "append 9 us:+1:1", "append 9 us:1:100000000000", "append 9 us:-10000000000:1",
		"append 9 us:1:1,", "append 9 ,us:1:1", "append 9 us:1:1,,us:1:1", "append 9 us:1:1,-", "append 9 -,us:1:1", "append 9 --", "append 9 ,", "append 9 us:1:1, us:2:2", "append 9 us 1 1", "append 9 us:1:1;us:2:2", "append 9 us:1:1\n", "append 9 ::",
		"delete", "delete 9", "delete 9 ", "delete x 1", "delete 9 x", "delete 9 1,", "delete 9 ,1", "delete 9 1,,2", "delete 9 1,-", "delete 9 01", "delete 9 -0", "delete 9 1 2", "delete 9 1, 2", "delete 9 us:1:1", "delete 9 100000000000", "delete 9 --", "delete - 1",
		"pack", "pack ", "pack x", "pack 1 2", "pack 041", "pack -", "expire", "expire 1", "expire 1 2 3", "expire x 1", "expire 1 x", "expire 1 ", "clean", "clean x", "clean 0 0", "clean -",
		"rows", "rows 1", "rows 1 2 3", "rows x 2", "rows 1 x", "rows 1,2", "rows - -", "rows -100000000000 1", "at", "at 1", "at 1 2", "at 1 2 3 4", "at x 2 3", "at 1 x 3", "at 1 2 x",
		"then", "then x", "then 1 1", "days", "days x", "days 1 1", "days -", "snaps 1", "snaps ", "files 1", "files ", "objects 1", "objects -", "cut", "cut x", "cut 1 1", "cut 00", "again 1", "again ", "on 1", "on ", "on -", strings.Repeat("x", 100000), strings.Repeat(" ", 1000),
	}
	for some := range slices.Chunk(lines, 30) {
		l := pairs("append 3 a:1:1,b:2:2 = 2\nsnaps = 1 5\nobjects = 6\n")
		for _, line := range some {
			l = append(l, pair{line, "text!"})
		}
		check(t, "part", append(l, pairs("snaps = 1 5\nobjects = 6\ndays 0 = 0\nfiles = data/3 data/4\nrows 0 9 = a:1:1 b:2:2\nappend 9 - = 0\nsnaps = 1 5 7\n")...))
	}
}

// P151: errors of what is called, bare, in its own order.
func TestWrongCalls(t *testing.T) {
	checkText(t, "part", `
		append 5 a:1:1 = 1
		append 0 b:1:1 = bound!
		append -1 - = bound!
		append 1073741825 - = bound!
		append 0 A:1:1 = bound!
		append 6 A:1:1 = name!
		append 6 :1:1 = name!
		append 6 a-b:1:1 = name!
		append 6 abcdefghi:1:1 = name!
		append 6 é:1:1 = name!
		append 6 a:1:1,a:1073741825:1,A:1:1 = bound!
		append 6 a:1:1,A:1:1,a:1073741825:1 = name!
		append 6 a:1:-1073741825 = bound!
		append 6 A:9999999999:1 = name!
		append 5 A:1:1 = name!
		append 5 a:1:1073741825 = bound!
		delete 0 1 = bound!
		delete 1073741825 - = bound!
		delete 6 1073741825 = bound!
		delete 6 1,-1073741825 = bound!
		delete 5 1073741825 = bound!
		pack -1 = bound!
		pack 42 = bound!
		pack 99999999999 = bound!
		expire -1 1 = bound!
		expire 1 -1 = bound!
		clean -1 = bound!
		days -1 = bound!
		days 100001 = bound!
		days 100000 = 100000
		days 1 = bound!
		days 0 = 100000
		cut -1 = bound!
		at 3 0 9 = none!
		rows 0 9 = a:1:1
		snaps = 1 4
		objects = 5
	`)
}

// P151: a line is read to its end ahead of being done: what is none of a line's comes first.
func TestTextFirst(t *testing.T) {
	checkText(t, "part", `
		append 0 a:1 = text!
		append 0 a:1:x = text!
		append x A:1:1 = text!
		append 1 A:1:1,a:x:1 = text!
		append 1 a:1:9999999999,a = text!
		delete 0 x = text!
		delete x 1073741825 = text!
		delete 1 1073741825,x = text!
		pack 99 1 = text!
		expire -1 x = text!
		at 9 1 x = text!
		cut 0 = ok
		append 1 a:1:1 = off!
		append 1 a = text!
		cut x = text!
		cut 1 = off!
	`)
}

func countedTo(n int, word func(digits string) string) string {
	var words []string
	for i := range n {
		words = append(words, word(string(rune('0'+i/10))+string(rune('0'+i%10))))
	}
	return strings.Join(words, ",")
}

// P151: also what is full: files of keys, lists of files, snaps.
func TestFull(t *testing.T) {
	keys := countedTo(41, func(digits string) string { return "1" + digits })
	manyRows := countedTo(61, func(digits string) string { return "a:1" + digits + ":0" })
	check(t, "trunc 1", []pair{
		{"delete 1 " + keys, "full!"}, {"objects", "2"}, {"delete 1 " + keys[:len(keys)-4], "40"}, {"append 2 " + manyRows, "full!"}, {"files", "gone/3"}, {"objects", "66"}, {"clean 0", "62"}, {"append 2 a:1:1", "1"}, {"files", "data/6 gone/3"},
	})
	var l []pair
	for i := range api.MaxSnaps - 1 {
		l = append(l, pair{"append 1" + string(rune('0'+i/10)) + string(rune('0'+i%10)) + " -", "0"})
	}
	l = append(l, pair{"append 200 -", "full!"}, pair{"append 200 a:1:1", "full!"}, pair{"days 1", "1"}, pair{"expire 0 1", "39"}, pair{"append 200 a:1:1", "1"}, pair{"rows 0 9", "a:1:1"})
	check(t, "part", l)
}

// Memory: lines are only read, also behind their length; answers are nobody else's.
func TestMemory(t *testing.T) {
	lines := append(make([]string, 0, 9), "append 1 a:1:1", "rows 0 9", "what")
	first := played(t, "part", lines)
	if !slices.Equal(lines[:9], []string{"append 1 a:1:1", "rows 0 9", "what", "", "", "", "", "", ""}) {
		t.Error(lines[:9])
	}
	clear(first)
	if l := played(t, "part", lines); !slices.Equal(l, []string{"1", "a:1:1", "deedbox: text"}) {
		t.Error(l)
	}
}
