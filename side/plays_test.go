package side

import (
	"math"
	"math/rand"
	"slices"
	"strings"
	"testing"

	"deedbox/api"
	"deedbox/script"
)

// P160: of each script its answers, a line end behind each; each script has a table of its own.
func TestPlays(t *testing.T) {
	scripts := [][]string{
		{"append 1 us:5:1,eu:7:2", "rows -9 9", "delete 2 5", "rows 5 5"},
		nil,
		{"rows -9 9"},
		{"append 1 us:5", "what", "", "cut -1"},
		{},
		{"append 1 eu:1:1", "objects"},
		{"append 1 eu:1:1", "objects"},
	}
	want := []string{
		"2\neu:7:2 us:5:1\n1\nnothing\n",
		"",
		"nothing\n",
		"deedbox: text\ndeedbox: text\ndeedbox: text\ndeedbox: bound\n",
		"",
		"1\n5\n",
		"1\n5\n",
	}
	for workers := 1; workers <= api.Workers; workers++ {
		got, err := Plays("part", scripts, workers)
		right(t, "scripts", got, err, want...)
		got, err = Plays("part", scripts[:1], workers)
		right(t, "one script", got, err, want[0])
	}
}

// P160: scripts are played by the spec that is told.
func TestPlaysSpec(t *testing.T) {
	for spec, want := range map[string]string{"part": "3\ndata/3 data/4\n", "bucket 1": "3\ndata/3\n", "trunc 10": "3\ndata/3 data/4 data/5\n"} {
		got, err := Plays(spec, [][]string{{"append 1 eu:-5:1,us:3:2,us:17:3", "files"}, nil}, 2)
		right(t, spec, got, err, want, "")
	}
}

// P160: no scripts have no answers, and nothing is asked of the spec.
func TestNoScripts(t *testing.T) {
	for _, scripts := range [][][]string{nil, {}} {
		for _, spec := range []string{"part", "x", ""} {
			got, err := Plays(spec, scripts, 3)
			right(t, spec, got, err)
		}
	}
}

// P160: how many workers there may be, ahead of how many scripts; and both ahead of what they are.
func TestPlaysBounds(t *testing.T) {
	full := slices.Repeat([][]string{{"objects"}}, 40)
	for _, workers := range []int{1, 16} {
		got, err := Plays("part", full, workers)
		right(t, "40", got, err, slices.Repeat([]string{"2\n"}, 40)...)
		for _, n := range []int{41, 5000} {
			got, err = Plays("part", make([][]string, n), workers)
			wrong(t, "too many", got, err, "bound")
			got, err = Plays("x", make([][]string, n), workers)
			wrong(t, "too many of no spec", got, err, "bound")
		}
	}
	for _, workers := range []int{0, 17, -1, math.MinInt, math.MaxInt} {
		for _, n := range []int{0, 1, 40, 41} {
			for _, spec := range []string{"part", "x"} {
				got, err := Plays(spec, make([][]string, n), workers)
				wrong(t, "workers", got, err, "shape")
			}
		}
	}
}

// P160: the first script that has an error is told; an error of a line is none.
func TestPlaysFirst(t *testing.T) {
	full, more := make([]string, api.MaxScript), make([]string, api.MaxScript+1)
	for workers := 1; workers <= api.Workers; workers++ {
		for _, c := range []struct {
			spec    string
			scripts [][]string
			want    string
		}{
			{"part", [][]string{full, more}, "bound at 1"},
			{"part", [][]string{more}, "bound at 0"},
			{"part", [][]string{{"what"}, nil, {"at 7 0 0"}, more, full, more}, "bound at 3"},
			{"x", [][]string{nil}, "text at 0"},
			{"x", [][]string{full, more}, "text at 0"},
			{"x", [][]string{more, full}, "bound at 0"},
			{"bucket 1001", [][]string{full, full}, "bound at 0"},
		} {
			got, err := Plays(c.spec, c.scripts, workers)
			wrong(t, "first", got, err, c.want)
		}
	}
	got, err := Plays("part", [][]string{full}, 1)
	right(t, "full", got, err, strings.Repeat("deedbox: text\n", api.MaxScript))
}

// P161: by however many it is the same, as it is one by one.
func TestPlaysSame(t *testing.T) {
	for seed := range 6 {
		rnd := rand.New(rand.NewSource(int64(seed)))
		var scripts [][]string
		var want []string
		for range rnd.Intn(41) {
			lines := anyScript(rnd)
			answers, err := script.Play("part", lines)
			if err != nil {
				t.Fatal(err)
			}
			text := ""
			for _, answer := range answers {
				text += answer + "\n"
			}
			scripts, want = append(scripts, lines), append(want, text)
		}
		for workers := 1; workers <= api.Workers; workers++ {
			got, err := Plays("part", scripts, workers)
			right(t, "any", got, err, want...)
		}
	}
}

// P4: what is handed over stays as it is; what is answered is nobody else's.
func TestPlaysRead(t *testing.T) {
	lines := []string{"append 1 a:1:1", "rows 0 9", "what"}
	scripts := [][]string{lines[:2], lines[:1], lines[2:]}
	first, err := Plays("part", scripts[:2], 2)
	right(t, "first", first, err, "1\na:1:1\n", "1\n")
	first[0] = "x"
	second, err := Plays("part", scripts[:2], 2)
	right(t, "second", second, err, "1\na:1:1\n", "1\n")
	if !slices.Equal(lines, []string{"append 1 a:1:1", "rows 0 9", "what"}) || !slices.Equal(scripts[2], lines[2:]) {
		t.Error("what was handed over is another one", lines, scripts)
	}
}
