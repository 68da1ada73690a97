package list

import (
	"errors"
	"fmt"
	"math"
	"math/rand"
	"slices"
	"strconv"
	"strings"
	"testing"

	"deedbox/api"
	"deedbox/file"
)

const big = api.MaxNum

// fileOf a path, with a Part that is right for it, and keys from lo to hi.
func fileOf(path string, lo, hi int) api.File {
	f := api.File{Path: path, Part: "eu", N: 2, Lo: lo, Hi: hi, Seq: 3}
	if strings.HasPrefix(path, "gone/") {
		f.Part = "-"
	}
	return f
}

func filesOf(paths ...string) []api.File {
	var l []api.File
	for _, path := range paths {
		l = append(l, fileOf(path, 0, 5))
	}
	return l
}

func pathsOf(l []api.File) []string {
	var paths []string
	for _, f := range l {
		paths = append(paths, f.Path)
	}
	return paths
}

// long has n files: data/2, data/4 ..
func long(n int) []api.File {
	var l []api.File
	for i := range n {
		l = append(l, fileOf("data/"+strconv.Itoa(2*i+2), i, i+1))
	}
	return l
}

// textOf files that need not be in order, nor few.
func textOf(l []api.File) string {
	s := ""
	for _, f := range l {
		s += file.Text(f) + "\n"
	}
	return s
}

// isFault: the place is told, and the error beneath it is bare; below 0: no place is told.
func isFault(err error, at int, want error) bool {
	if at < 0 {
		return err == want
	}
	f, ok := err.(*api.Fault)
	return ok && f.At == at && f.Err == want
}

// rightLists by their texts.
func rightLists() map[string][]api.File {
	return map[string][]api.File{
		"":                     nil,
		"data/1 eu 2 -1 5 4\n": {{Path: "data/1", Part: "eu", N: 2, Lo: -1, Hi: 5, Seq: 4}},
		"gone/1 - 1 0 0 1\n":   {{Path: "gone/1", Part: "-", N: 1, Lo: 0, Hi: 0, Seq: 1}},
		"data/2 eu 2 0 5 3\ndata/10 eu 2 0 5 3\ndata/100 eu 2 0 5 3\n":                                          filesOf("data/2", "data/10", "data/100"),
		"gone/9 - 2 0 5 3\ngone/10 - 2 0 5 3\n":                                                                 filesOf("gone/9", "gone/10"),
		"data/9 eu 2 0 5 3\ngone/1 - 2 0 5 3\n":                                                                 filesOf("data/9", "gone/1"),
		"data/7 eu 2 0 5 3\ngone/7 - 2 0 5 3\n":                                                                 filesOf("data/7", "gone/7"),
		"data/1073741823 eu 2 0 5 3\ndata/1073741824 eu 2 0 5 3\ngone/1 - 2 0 5 3\ngone/1073741824 - 2 0 5 3\n": filesOf("data/1073741823", "data/1073741824", "gone/1", "gone/1073741824"),
		// Only paths rise: Seq, Part and keys stand as they come.
		"data/1 n1073741824 40 -1073741824 1073741824 1073741824\ndata/2 a 1 -5 -5 1\n": {
			{Path: "data/1", Part: "n1073741824", N: 40, Lo: -big, Hi: big, Seq: big},
			{Path: "data/2", Part: "a", N: 1, Lo: -5, Hi: -5, Seq: 1},
		},
	}
}

// P60, P62: what is right is written and read to the byte.
func TestRightLists(t *testing.T) {
	for s, l := range rightLists() {
		if err := Check(l); err != nil {
			t.Errorf("Check(%v): %v", l, err)
		}
		if got, err := Text(l); got != s || err != nil {
			t.Errorf("Text(%v): %q, %v", l, got, err)
		}
		if got, err := Read(s); !slices.Equal(got, l) || err != nil {
			t.Errorf("Read(%q): %v, %v", s, got, err)
		}
	}
}

// P3, P60: an empty list is a nil one.
func TestEmptyLists(t *testing.T) {
	for _, l := range [][]api.File{nil, {}, long(3)[:0]} {
		if err := Check(l); err != nil {
			t.Error(err)
		}
		if s, err := Text(l); s != "" || err != nil {
			t.Errorf("%q, %v", s, err)
		}
		if got, err := Add(l, fileOf("data/5", 1, 2)); !slices.Equal(got, []api.File{fileOf("data/5", 1, 2)}) || err != nil {
			t.Error(got, err)
		}
		if got, err := Remove(l, "data/2"); len(got) > 0 || err != api.ErrNone {
			t.Error(got, err)
		}
		if at := Find(l, "data/2"); at != -1 {
			t.Error(at)
		}
		if got := Prune(l, math.MinInt, math.MaxInt); len(got) > 0 {
			t.Error(got)
		}
	}
}

// P60, P61: as many files as there may be, and one more: ErrFull, ahead of what is wrong in them, without a place.
func TestMostFiles(t *testing.T) {
	l := long(api.MaxFiles)
	s, err := Text(l)
	if s != textOf(l) || err != nil || Check(l) != nil {
		t.Fatal(s, err)
	}
	if got, err := Read(s); !slices.Equal(got, l) || err != nil {
		t.Error(got, err)
	}
	most, err := Add(l[:api.MaxFiles-1], l[api.MaxFiles-1])
	if !slices.Equal(most, l) || err != nil {
		t.Error(most, err)
	}
	for _, wrong := range [][]api.File{long(api.MaxFiles + 1), make([]api.File, api.MaxFiles+1), append([]api.File{{}}, l...), long(1000)} {
		checkWrongList(t, wrong, -1, api.ErrFull)
	}
	for _, s := range []string{s + "x", s + "\n", s + " ", s + s, "\n" + s, "x\n" + s, textOf(long(api.MaxFiles + 1)), strings.TrimSuffix(textOf(long(api.MaxFiles+1)), "\n"), strings.Repeat("\n", api.MaxFiles+1), strings.Repeat("\n", api.MaxFiles) + "x", strings.Repeat("\n", 1<<16)} {
		if got, err := Read(s); len(got) > 0 || err != api.ErrFull {
			t.Errorf("Read(%.40q): %v, %v", s, got, err)
		}
	}
	// So many lines are not too many: what is wrong in them is told.
	for s, want := range map[string]api.Fault{
		strings.Repeat("\n", api.MaxFiles):                            {At: 0, Err: api.ErrText},
		strings.Repeat("\n", api.MaxFiles-1) + "x":                    {At: 0, Err: api.ErrText},
		strings.TrimSuffix(s, "\n"):                                   {At: api.MaxFiles - 1, Err: api.ErrText},
		strings.Repeat("data/2 eu 1 0 5 1\n", api.MaxFiles):           {At: 1, Err: api.ErrOrder},
		textOf(l[:api.MaxFiles-1]) + "data/0 eu 1 0 5 1\n":            {At: api.MaxFiles - 1, Err: api.ErrName},
		textOf(l[:api.MaxFiles-1]) + "data/1 eu 1 0 5 1\n":            {At: api.MaxFiles - 1, Err: api.ErrOrder},
		textOf(l[:api.MaxFiles-1]) + strings.Repeat("x", api.MaxText): {At: api.MaxFiles - 1, Err: api.ErrText},
	} {
		if got, err := Read(s); len(got) > 0 || !isFault(err, want.At, want.Err) {
			t.Errorf("Read(%.40q): %v, %v", s, got, err)
		}
	}
}

// checkWrongList: every call that checks a list tells the same of it, and nothing else, ahead of what is wrong with what comes.
func checkWrongList(t *testing.T, l []api.File, at int, want error) {
	t.Helper()
	if err := Check(l); !isFault(err, at, want) {
		t.Errorf("Check(%.80v): %#v", l, err)
	}
	if s, err := Text(l); s != "" || !isFault(err, at, want) {
		t.Errorf("Text(%.80v): %q, %#v", l, s, err)
	}
	for _, f := range []api.File{{}, fileOf("data/1", 0, 0), fileOf("data/999", 0, 0), fileOf("gone/999", 0, 0)} {
		if got, err := Add(l, f); len(got) > 0 || !isFault(err, at, want) {
			t.Errorf("Add(%.80v, %v): %v, %#v", l, f, got, err)
		}
	}
	for _, path := range []string{"", "x", "data/1", "data/2", "gone/1"} {
		if got, err := Remove(l, path); len(got) > 0 || !isFault(err, at, want) {
			t.Errorf("Remove(%.80v, %q): %v, %#v", l, path, got, err)
		}
	}
}

// P60, P61: a path that is not behind the one ahead.
func TestOrder(t *testing.T) {
	for _, c := range []struct {
		at    int
		paths string
	}{
		{1, "data/1 data/1"},
		{1, "gone/1 gone/1"},
		{1, "data/2 data/1"},
		{1, "gone/2 gone/1"},
		{1, "data/10 data/2"},
		{1, "gone/10 gone/9"},
		{1, "data/100 data/99 data/98"},
		{1, "gone/1 data/1"},
		{1, "gone/1 data/2"},
		{1, "gone/2 data/1"},
		{1, "gone/1 data/1073741824"},
		{1, "data/1073741824 data/1073741823"},
		{2, "data/1 data/3 data/2"},
		{2, "data/1 data/3 data/1"},
		{2, "data/1 gone/1 data/2"},
		{3, "data/1 data/2 data/3 data/3 data/1"},
		{2, "data/5 gone/5 gone/5"},
		{2, "data/5 gone/6 gone/5"},
	} {
		l := filesOf(strings.Fields(c.paths)...)
		checkWrongList(t, l, c.at, api.ErrOrder)
		if got, err := Read(textOf(l)); len(got) > 0 || !isFault(err, c.at, api.ErrOrder) {
			t.Errorf("Read of %q: %v, %#v", c.paths, got, err)
		}
	}
}

// P60, P61: the first file that is not right; of one file, its own error ahead of the order's.
func TestWrongFiles(t *testing.T) {
	for want, f := range map[error]api.File{
		api.ErrName:  {Path: "data/01", Part: "eu", N: 1, Seq: 1},
		api.ErrKind:  {Path: "data/1", Part: "-", N: 1, Seq: 1},
		api.ErrBound: {Path: "data/1", Part: "eu", N: 0, Seq: 1},
	} {
		checkWrongList(t, []api.File{f}, 0, want)
		checkWrongList(t, append(filesOf("data/1", "data/2"), f), 2, want)
		checkWrongList(t, append(filesOf("data/1", "gone/2"), f, api.File{}), 2, want)
		checkWrongList(t, append(long(api.MaxFiles-1), f), api.MaxFiles-1, want)
		checkWrongList(t, []api.File{f, f}, 0, want)
		checkWrongList(t, append([]api.File{f}, filesOf("data/2", "data/2")...), 0, want)
		checkWrongList(t, append(filesOf("data/2", "data/2"), f), 1, api.ErrOrder)
	}
	checkWrongList(t, []api.File{{}}, 0, api.ErrName)
	checkWrongList(t, make([]api.File, api.MaxFiles), 0, api.ErrName)
	for _, f := range []api.File{{Path: "gone/3", Part: "eu", N: 1, Seq: 1}, {Path: "gone/3", Part: "", N: 1, Seq: 1}} {
		checkWrongList(t, []api.File{f}, 0, api.ErrKind)
	}
	for _, f := range []api.File{{Path: "gone/3", Part: "-", N: 41, Seq: 1}, {Path: "gone/3", Part: "-", N: 1, Lo: 1, Seq: 1}, {Path: "gone/3", Part: "-", N: 1}, {Path: "gone/3", Part: "-", N: 1, Seq: big + 1}} {
		checkWrongList(t, append(filesOf("data/3", "gone/2"), f), 2, api.ErrBound)
	}
}

// P60: the first line that is not right, with what file.Read says of it.
func TestReadErrors(t *testing.T) {
	const right = "data/2 eu 2 0 5 3\n"
	for s, want := range map[string]api.Fault{
		"x":                                     {At: 0, Err: api.ErrText},
		" ":                                     {At: 0, Err: api.ErrText},
		"\n":                                    {At: 0, Err: api.ErrText},
		"\n" + right:                            {At: 0, Err: api.ErrText},
		right + "\n":                            {At: 1, Err: api.ErrText},
		right + " \n":                           {At: 1, Err: api.ErrText},
		right + "\n" + right:                    {At: 1, Err: api.ErrText},
		"data/2 eu 2 0 5 3":                     {At: 0, Err: api.ErrText},
		"data/0 eu 2 0 5 3":                     {At: 0, Err: api.ErrText},
		right + "data/3 eu 2 0 5 3":             {At: 1, Err: api.ErrText},
		right + "data/1 eu 2 0 5 3":             {At: 1, Err: api.ErrText},
		right + right[:len(right)-1] + "\r\n":   {At: 1, Err: api.ErrText},
		right + right[:len(right)-1] + " \n":    {At: 1, Err: api.ErrText},
		right + " data/3 eu 2 0 5 3\n":          {At: 1, Err: api.ErrText},
		right + "data/3  eu 2 0 5 3\n":          {At: 1, Err: api.ErrText},
		right + "data/3 eu 2 0 5\n":             {At: 1, Err: api.ErrText},
		right + "data/3 eu 2 0 5 03\n":          {At: 1, Err: api.ErrText},
		right + "data/1 eu 2 0 5 +3\n":          {At: 1, Err: api.ErrText},
		right + "data/03 eu 2 0 5 3\n":          {At: 1, Err: api.ErrName},
		right + "snap/3 eu 2 0 5 3\n":           {At: 1, Err: api.ErrName},
		right + "data/3 - 2 0 5 3\n":            {At: 1, Err: api.ErrKind},
		right + "gone/3 eu 2 0 5 3\n":           {At: 1, Err: api.ErrKind},
		right + "data/1 EU 2 0 5 3\n":           {At: 1, Err: api.ErrKind},
		right + "data/3 eu 0 0 5 3\n":           {At: 1, Err: api.ErrBound},
		right + "data/1 eu 41 0 5 3\n":          {At: 1, Err: api.ErrBound},
		right + "data/3 eu 2 6 5 3\n":           {At: 1, Err: api.ErrBound},
		right + "data/3 eu 2 0 5 0\n":           {At: 1, Err: api.ErrBound},
		right + "data/1 eu 2 0 5 3\nx":          {At: 1, Err: api.ErrOrder},
		right + right + "\n":                    {At: 1, Err: api.ErrOrder},
		right + "gone/1 - 2 0 5 3\n" + right:    {At: 2, Err: api.ErrOrder},
		right + "gone/1 - 2 0 5 3\ndata/3 eu 2": {At: 2, Err: api.ErrText},
	} {
		if got, err := Read(s); len(got) > 0 || !isFault(err, want.At, want.Err) {
			t.Errorf("Read(%q): %v, %#v", s, got, err)
		}
	}
}

// P61: a file comes where its path stands, and goes from there; P62: what was is left.
func TestAddRemove(t *testing.T) {
	l := filesOf("data/2", "data/10", "gone/3", "gone/20")
	for path, want := range map[string]string{
		"data/1":          "data/1 data/2 data/10 gone/3 gone/20",
		"data/3":          "data/2 data/3 data/10 gone/3 gone/20",
		"data/9":          "data/2 data/9 data/10 gone/3 gone/20",
		"data/11":         "data/2 data/10 data/11 gone/3 gone/20",
		"data/100":        "data/2 data/10 data/100 gone/3 gone/20",
		"data/1073741824": "data/2 data/10 data/1073741824 gone/3 gone/20",
		"gone/1":          "data/2 data/10 gone/1 gone/3 gone/20",
		"gone/2":          "data/2 data/10 gone/2 gone/3 gone/20",
		"gone/10":         "data/2 data/10 gone/3 gone/10 gone/20",
		"gone/21":         "data/2 data/10 gone/3 gone/20 gone/21",
		"gone/1073741824": "data/2 data/10 gone/3 gone/20 gone/1073741824",
	} {
		f := fileOf(path, -7, -7)
		added, err := Add(l, f)
		if strings.Join(pathsOf(added), " ") != want || err != nil {
			t.Errorf("Add of %q: %v, %v", path, pathsOf(added), err)
			continue
		}
		if at := Find(added, path); at < 0 || added[at] != f || Check(added) != nil {
			t.Errorf("Find of %q: %d, %v", path, at, Check(added))
		}
		if again, err := Add(added, f); len(again) > 0 || err != api.ErrExist {
			t.Errorf("Add of %q again: %v, %v", path, again, err)
		}
		if back, err := Remove(added, path); !slices.Equal(back, l) || err != nil {
			t.Errorf("Remove of %q: %v, %v", path, back, err)
		}
	}
	for i, f := range l {
		less, err := Remove(l, f.Path)
		if !slices.Equal(less, slices.Delete(slices.Clone(l), i, i+1)) || err != nil {
			t.Error(i, less, err)
		}
		if back, err := Add(less, f); !slices.Equal(back, l) || err != nil {
			t.Error(i, back, err)
		}
	}
	if got, err := Remove(filesOf("data/2"), "data/2"); len(got) > 0 || err != nil {
		t.Error(got, err)
	}
}

// P61: what comes is wrong, is there, or is too much: the first of these, without a place.
func TestAddErrors(t *testing.T) {
	few, full := filesOf("data/2", "gone/2"), long(api.MaxFiles)
	wrongPart, wrongCount := fileOf("data/2", 0, 0), fileOf("gone/2", 0, 0)
	wrongPart.Part, wrongCount.N = "-", 0
	other := api.File{Path: "data/2", Part: "us", N: 40, Lo: -9, Hi: -9, Seq: 99}
	for _, c := range []struct {
		l    []api.File
		f    api.File
		want error
	}{
		{few, api.File{}, api.ErrName},
		{few, fileOf("data/02", 0, 0), api.ErrName},
		{few, fileOf("data/1073741825", 0, 0), api.ErrName},
		{few, fileOf("other/1", 0, 0), api.ErrName},
		{few, wrongPart, api.ErrKind},
		{few, wrongCount, api.ErrBound},
		{few, fileOf("data/2", 1, 0), api.ErrBound},
		{few, fileOf("data/3", 1, 0), api.ErrBound},
		{few, fileOf("data/2", 0, 5), api.ErrExist},
		{few, other, api.ErrExist},
		{few, fileOf("gone/2", 0, 0), api.ErrExist},
		{full, api.File{}, api.ErrName},
		{full, wrongPart, api.ErrKind},
		{full, wrongCount, api.ErrBound},
		{full, full[0], api.ErrExist},
		{full, full[api.MaxFiles-1], api.ErrExist},
		{full, other, api.ErrExist},
		{full, fileOf("data/1", 0, 0), api.ErrFull},
		{full, fileOf("data/3", 0, 0), api.ErrFull},
		{full, fileOf("data/121", 0, 0), api.ErrFull},
		{full, fileOf("gone/2", 0, 0), api.ErrFull},
	} {
		if got, err := Add(c.l, c.f); len(got) > 0 || err != c.want {
			t.Errorf("Add of %v: %v, %#v", c.f, got, err)
		}
	}
}

// P61: a path that no file has is ErrNone, and at no place; nor is a text that is like one.
func TestNone(t *testing.T) {
	l := append(long(api.MaxFiles-1), fileOf("gone/3", 0, 0))
	for _, path := range []string{"", " ", "x", "data", "data/", "data/1", "data/3", "data/02", "data/2 ", " data/2", "data/2\n", "Data/2", "data/120", "data/20000000000", "gone/2", "gone/4", "gone/03", "snap/2", strings.Repeat("data/2", 1<<12)} {
		if got, err := Remove(l, path); len(got) > 0 || err != api.ErrNone {
			t.Errorf("Remove of %.40q: %v, %#v", path, got, err)
		}
		if at := Find(l, path); at != -1 {
			t.Errorf("Find of %.40q: %d", path, at)
		}
	}
	for want, f := range l {
		if at := Find(l, f.Path); at != want {
			t.Errorf("Find of %q: %d", f.Path, at)
		}
	}
}

// P3, P61: a list that is not right has its paths too, and of several the first is taken.
func TestFindInAnyList(t *testing.T) {
	l := filesOf("gone/1", "data/10", "data/2", "x", "", "data/2", "data/10", "x")
	for path, want := range map[string]int{"gone/1": 0, "data/10": 1, "data/2": 2, "x": 3, "": 4, "data/1": -1} {
		if at := Find(l, path); at != want {
			t.Errorf("Find of %q: %d", path, at)
		}
	}
	many := append(long(200), fileOf("data/1", 0, 0))
	if at := Find(many, "data/1"); at != 200 {
		t.Error(at)
	}
}

// P61: files that may have keys from lo to hi, in their order.
func TestPrune(t *testing.T) {
	l := []api.File{fileOf("data/1", -5, 5), fileOf("data/2", 5, 9), fileOf("data/10", 20, 20), fileOf("gone/1", 0, 0), fileOf("gone/2", -big, big)}
	for _, c := range []struct {
		lo, hi int
		want   string
	}{
		{0, 0, "data/1 gone/1 gone/2"},
		{1, 1, "data/1 gone/2"},
		{1, 4, "data/1 gone/2"},
		{5, 5, "data/1 data/2 gone/2"},
		{6, 6, "data/2 gone/2"},
		{9, 9, "data/2 gone/2"},
		{9, 20, "data/2 data/10 gone/2"},
		{10, 19, "gone/2"},
		{10, 20, "data/10 gone/2"},
		{20, 99, "data/10 gone/2"},
		{21, 99, "gone/2"},
		{-5, -5, "data/1 gone/2"},
		{-9, -5, "data/1 gone/2"},
		{-9, -6, "gone/2"},
		{-9, 0, "data/1 gone/1 gone/2"},
		{-9, 9, "data/1 data/2 gone/1 gone/2"},
		{-9, 99, "data/1 data/2 data/10 gone/1 gone/2"},
		{-big, -big, "gone/2"},
		{big, big, "gone/2"},
		{big, math.MaxInt, "gone/2"},
		{math.MinInt, -big, "gone/2"},
		{big + 1, math.MaxInt, ""},
		{math.MinInt, -big - 1, ""},
		{math.MaxInt, math.MaxInt, ""},
		{math.MinInt, math.MinInt, ""},
		{math.MinInt, math.MaxInt, "data/1 data/2 data/10 gone/1 gone/2"},
		{1, 0, ""},
		{0, -1, ""},
		{7, 6, ""},
		{5, -5, ""},
		{math.MaxInt, math.MinInt, ""},
	} {
		if got := strings.Join(pathsOf(Prune(l, c.lo, c.hi)), " "); got != c.want {
			t.Errorf("Prune from %d to %d: %q", c.lo, c.hi, got)
		}
	}
}

// P1, P61: a list that is not right is pruned by what it says: no number is from 5 to 4, nor is there a bound of files.
func TestPruneOfAnyList(t *testing.T) {
	l := []api.File{fileOf("x", 0, 1), fileOf("x", 5, 4), fileOf("data/1", math.MinInt, math.MaxInt), {}, fileOf("data/1", math.MaxInt, math.MinInt), fileOf("", 0, 1)}
	for _, c := range []struct {
		lo, hi int
		want   []api.File
	}{
		{0, 9, []api.File{l[0], l[2], l[3], l[5]}},
		{4, 5, []api.File{l[2]}},
		{1, 1, []api.File{l[0], l[2], l[5]}},
		{math.MinInt, math.MinInt, []api.File{l[2]}},
		{math.MaxInt, math.MaxInt, []api.File{l[2]}},
		{math.MinInt, math.MaxInt, []api.File{l[0], l[2], l[3], l[5]}},
		{5, 4, nil},
	} {
		if got := Prune(l, c.lo, c.hi); !slices.Equal(got, c.want) {
			t.Errorf("Prune from %d to %d: %v", c.lo, c.hi, got)
		}
	}
	if got := Prune(long(500), 0, 500); !slices.Equal(got, long(500)) {
		t.Error(len(got))
	}
}

// P3, P4, P62: what is handed over is only read, what lies behind it is left, and what is answered is new memory.
func TestMemory(t *testing.T) {
	calls := map[string]func(l []api.File) []api.File{
		"Check":  func(l []api.File) []api.File { Check(l); return nil },
		"Text":   func(l []api.File) []api.File { Text(l); return nil },
		"Find":   func(l []api.File) []api.File { Find(l, "data/4"); return nil },
		"Read":   func(l []api.File) []api.File { got, _ := Read(textOf(l)); return got },
		"first":  func(l []api.File) []api.File { got, _ := Add(l, fileOf("data/1", 0, 0)); return got },
		"amid":   func(l []api.File) []api.File { got, _ := Add(l, fileOf("data/3", 0, 0)); return got },
		"last":   func(l []api.File) []api.File { got, _ := Add(l, fileOf("gone/9", 0, 0)); return got },
		"less":   func(l []api.File) []api.File { got, _ := Remove(l, "data/4"); return got },
		"ahead":  func(l []api.File) []api.File { got, _ := Remove(l, "data/2"); return got },
		"end":    func(l []api.File) []api.File { got, _ := Remove(l, "data/10"); return got },
		"Prune":  func(l []api.File) []api.File { return Prune(l, math.MinInt, math.MaxInt) },
		"Prune1": func(l []api.File) []api.File { return Prune(l, 0, 0) },
	}
	for name, call := range calls {
		all := long(8)
		was := slices.Clone(all)
		got := call(all[:5])
		want := slices.Clone(got)
		if !slices.Equal(all, was) {
			t.Errorf("%s has changed what it was given", name)
		}
		for i := range got {
			got[i].Path = "mine"
		}
		for i := range cap(got) - len(got) {
			got[:cap(got)][len(got)+i].Path = "mine"
		}
		if !slices.Equal(all, was) {
			t.Errorf("%s answers memory of what it was given", name)
		}
		clear(all)
		if again := call(was[:5]); !slices.Equal(again, want) {
			t.Errorf("%s has kept something: %v", name, again)
		}
	}
}

// P61, P62: files come and go in any order, held against a plain map.
func TestManyChanges(t *testing.T) {
	r := rand.New(rand.NewSource(6))
	var l []api.File
	there := map[string]api.File{}
	for step := range 5000 {
		f := fileOf([]string{"data/", "gone/"}[r.Intn(2)]+strconv.Itoa(r.Intn(50)+1), -step, step)
		_, has := there[f.Path]
		before := slices.Clone(l)
		var next []api.File
		var err, want error
		if r.Intn(5) < 3 {
			next, err = Add(l, f)
			if has {
				want = api.ErrExist
			} else if len(there) == api.MaxFiles {
				want = api.ErrFull
			} else {
				there[f.Path] = f
			}
		} else {
			next, err = Remove(l, f.Path)
			if !has {
				want = api.ErrNone
			}
			delete(there, f.Path)
		}
		if err != want || !slices.Equal(before, l) {
			t.Fatal(step, f, err, want)
		}
		if err == nil {
			l = next
		}
		checkAgainst(t, l, there)
	}
}

func checkAgainst(t *testing.T, l []api.File, there map[string]api.File) {
	t.Helper()
	if len(l) != len(there) || Check(l) != nil {
		t.Fatal(len(l), len(there), Check(l))
	}
	for at, f := range l {
		if there[f.Path] != f || Find(l, f.Path) != at {
			t.Fatal(at, f, there[f.Path])
		}
	}
	s, err := Text(l)
	if err != nil {
		t.Fatal(err)
	}
	if got, err := Read(s); !slices.Equal(got, l) || err != nil {
		t.Fatal(got, err)
	}
}

// P1, P3, P62: whatever the text: a list that is written the same, or an error of those that are named, and no list.
func FuzzRead(f *testing.F) {
	for s := range rightLists() {
		f.Add(s)
		f.Add(s + "x")
		f.Add(s + s)
	}
	f.Add(textOf(long(api.MaxFiles)))
	f.Add(textOf(long(api.MaxFiles + 1)))
	f.Add(strings.Repeat("\n", api.MaxFiles+1))
	f.Fuzz(func(t *testing.T, s string) {
		got, err := Read(s)
		if err == nil {
			if back, err := Text(got); back != s || err != nil || Check(got) != nil {
				t.Errorf("Read(%q): %v, which is written %q, %v", s, got, back, err)
			}
			return
		}
		var fault *api.Fault
		tooMany := len(strings.Split(strings.TrimSuffix(s, "\n"), "\n")) > api.MaxFiles
		if len(got) > 0 || tooMany != (err == api.ErrFull) || tooMany == errors.As(err, &fault) {
			t.Errorf("Read(%q): %v, %#v", s, got, err)
		}
		if fault != nil && !slices.Contains([]error{api.ErrText, api.ErrName, api.ErrKind, api.ErrBound, api.ErrOrder}, fault.Err) {
			t.Errorf("Read(%q): %#v", s, fault)
		}
		// Up to the place that is told, all is right.
		if fault != nil {
			ahead := strings.Join(strings.SplitAfter(s, "\n")[:fault.At], "")
			if l, err := Read(ahead); len(l) != fault.At || err != nil {
				t.Errorf("Read(%q) ahead of %d: %v", s, fault.At, err)
			}
		}
	})
}

// P1, P61: whatever file comes to a list.
func FuzzAdd(f *testing.F) {
	f.Add("data/3", "eu", 1, 0, 5, 1, 4)
	f.Add("gone/3", "-", 1, 0, 5, 1, 60)
	f.Add("data/2", "eu", 1, 0, 5, 1, 60)
	f.Add("x", "", 0, 9, 5, 0, 0)
	f.Fuzz(func(t *testing.T, path, part string, n, lo, hi, seq, many int) {
		l := long(int(uint(many) % (api.MaxFiles + 1)))
		x := api.File{Path: path, Part: part, N: n, Lo: lo, Hi: hi, Seq: seq}
		want := file.Check(x)
		if want == nil && Find(l, path) >= 0 {
			want = api.ErrExist
		} else if want == nil && len(l) == api.MaxFiles {
			want = api.ErrFull
		}
		got, err := Add(l, x)
		if err != want || err != nil && len(got) > 0 {
			t.Fatalf("Add of %v to %d: %v, %v", x, len(l), got, err)
		}
		if err != nil {
			return
		}
		if at := Find(got, path); at < 0 || got[at] != x || Check(got) != nil {
			t.Errorf("Add of %v: %v", x, got)
		}
		if back, err := Remove(got, path); !slices.Equal(back, l) || err != nil {
			t.Errorf("Add and Remove of %v: %v, %v", x, back, err)
		}
	})
}

func ExampleAdd() {
	l, err := Add(filesOf("data/2", "data/10"), fileOf("data/3", 0, 0))
	fmt.Println(pathsOf(l), err)
	// Output: [data/2 data/3 data/10] <nil>
}
