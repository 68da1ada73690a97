package snap

import (
	"errors"
	"fmt"
	"hash/crc32"
	"math"
	"math/rand"
	"reflect"
	"slices"
	"strconv"
	"strings"
	"testing"

	"deedbox/api"
	"deedbox/file"
	"deedbox/list"
)

const big = api.MaxNum

// fileOf a path, with a Part that is right for it.
func fileOf(path string, n, seq int) api.File {
	f := api.File{Path: path, Part: "eu", N: n, Lo: 0, Hi: 5, Seq: seq}
	if strings.HasPrefix(path, "gone/") {
		f.Part = "-"
	}
	return f
}

// snapOf files, with room in its numbers.
func snapOf(files ...api.File) api.Snap {
	return api.Snap{ID: 9, Parent: 4, Seq: 6, Day: 3, Index: 2, Op: "append", Files: files}
}

// long has n files: data/2, data/4 ..
func long(n int) []api.File {
	var l []api.File
	for i := range n {
		l = append(l, fileOf("data/"+strconv.Itoa(2*i+2), i%api.MaxRows+1, i%6+1))
	}
	return l
}

// whole text of a head and what stands behind it, with its sum, whether they are right or not.
func whole(head, body string) string {
	return fmt.Sprint(head, " ", crc32.ChecksumIEEE([]byte(body)), "\n", body)
}

// wholeOf a snap that need not be right, but for each of its files.
func wholeOf(s api.Snap) string {
	body := ""
	for _, f := range s.Files {
		body += file.Text(f) + "\n"
	}
	return whole(fmt.Sprint("snap ", s.ID, " ", s.Parent, " ", s.Seq, " ", s.Day, " ", s.Index, " ", s.Op), body)
}

// same snaps: a nil list and an empty one are one thing.
func same(a, b api.Snap) bool {
	files := slices.Equal(a.Files, b.Files)
	a.Files, b.Files = nil, nil
	return files && reflect.DeepEqual(a, b)
}

// isFault: the place is told, and the error beneath it is bare; below 0: no place is told.
func isFault(err error, at int, want error) bool {
	if at < 0 {
		return err == want
	}
	f, ok := err.(*api.Fault)
	return ok && f.At == at && f.Err == want
}

// checkWrong: every call that is handed a snap which is not right tells the same of it, and nothing else.
func checkWrong(t *testing.T, s api.Snap, at int, want error) {
	t.Helper()
	if err := Check(s); !isFault(err, at, want) {
		t.Errorf("Check(%.80v): %#v", s, err)
	}
	if text, err := Text(s); text != "" || !isFault(err, at, want) {
		t.Errorf("Text(%.80v): %q, %#v", s, text, err)
	}
	if rows, keys := Rows(s); rows != 0 || keys != 0 {
		t.Errorf("Rows(%.80v): %d, %d", s, rows, keys)
	}
}

// checkUnread: a text that is none is told so, and no snap comes of it.
func checkUnread(t *testing.T, text string, at int, want error) {
	t.Helper()
	if s, err := Read(text); !reflect.DeepEqual(s, api.Snap{}) || !isFault(err, at, want) {
		t.Errorf("Read(%.80q): %v, %#v", text, s, err)
	}
}

// rightSnaps by their texts, the numbers of each at their bounds.
func rightSnaps() map[string]api.Snap {
	return map[string]api.Snap{
		"snap 1 0 0 0 0 start 0\n":                                                                     {ID: 1, Op: "start"},
		"snap 1 0 1073741824 100000 1073741824 append 0\n":                                             {ID: 1, Seq: big, Day: api.MaxDay, Index: big, Op: "append"},
		"snap 2 1 0 0 0 delete 0\n":                                                                    {ID: 2, Parent: 1, Op: "delete"},
		"snap 1073741824 0 0 0 0 rewrite 0\n":                                                          {ID: big, Op: "rewrite"},
		"snap 1073741824 1073741823 1073741824 100000 1073741824 start 0\n":                            {ID: big, Parent: big - 1, Seq: big, Day: api.MaxDay, Index: big, Op: "start"},
		"snap 9 4 6 3 2 append 2298867264\ndata/2 eu 5 0 5 6\n":                                        snapOf(fileOf("data/2", 5, 6)),
		"snap 9 4 6 3 2 append 2788897363\ngone/8 - 2 0 5 1\n":                                         snapOf(fileOf("gone/8", 2, 1)),
		"snap 9 4 6 3 2 append 4020304273\ndata/2 eu 5 0 5 6\ngone/8 - 2 0 5 6\n":                      snapOf(fileOf("data/2", 5, 6), fileOf("gone/8", 2, 6)),
		"snap 7 6 1073741824 0 0 rewrite 318905921\ndata/1 eu 40 0 5 1073741824\ndata/10 eu 1 0 5 3\n": {ID: 7, Parent: 6, Seq: big, Op: "rewrite", Files: []api.File{fileOf("data/1", 40, big), fileOf("data/10", 1, 3)}},
	}
}

// P70, P72: what is right is written and read to the byte.
func TestRightSnaps(t *testing.T) {
	for text, s := range rightSnaps() {
		if err := Check(s); err != nil {
			t.Errorf("Check(%v): %v", s, err)
		}
		if got, err := Text(s); got != text || err != nil {
			t.Errorf("Text(%v): %q, %v", s, got, err)
		}
		if got, err := Read(text); !same(got, s) || err != nil {
			t.Errorf("Read(%q): %v, %v", text, got, err)
		}
	}
}

// P70, P72: as many files as there may be, and the longest text that a snap may have.
func TestMostFiles(t *testing.T) {
	longest := api.Snap{ID: big, Parent: big - 1, Seq: big, Day: api.MaxDay, Index: big, Op: "rewrite"}
	for i := range api.MaxFiles {
		longest.Files = append(longest.Files, api.File{Path: "data/" + strconv.Itoa(big-api.MaxFiles+i+1), Part: "twelvesigns1", N: api.MaxRows, Lo: -big, Hi: -big, Seq: big})
	}
	for _, s := range []api.Snap{snapOf(long(api.MaxFiles)...), longest} {
		text, err := Text(s)
		if text != wholeOf(s) || err != nil || Check(s) != nil {
			t.Fatal(text, err)
		}
		if got, err := Read(text); !same(got, s) || err != nil {
			t.Error(got, err)
		}
	}
	if rows, keys := Rows(longest); rows != api.MaxFiles*api.MaxRows || keys != 0 {
		t.Error(rows, keys)
	}
}

// P3, P70: an empty list is a nil one.
func TestEmptyLists(t *testing.T) {
	for _, l := range [][]api.File{nil, {}, long(3)[:0]} {
		s := snapOf(l...)
		s.Files = l
		if text, err := Text(s); text != "snap 9 4 6 3 2 append 0\n" || err != nil || Check(s) != nil {
			t.Errorf("%q, %v", text, err)
		}
		if rows, keys := Rows(s); rows != 0 || keys != 0 {
			t.Error(rows, keys)
		}
	}
}

// outOfBounds: what each number of a snap with ID 9 may not be.
func outOfBounds() map[string]api.Snap {
	wrong := map[string]api.Snap{}
	put := func(name string, set func(s *api.Snap, n int), numbers ...int) {
		for _, n := range numbers {
			s := snapOf(fileOf("data/2", 5, 6))
			set(&s, n)
			wrong[name+" "+strconv.Itoa(n)] = s
		}
	}
	put("ID", func(s *api.Snap, n int) { s.ID = n }, 0, -1, -big, big+1, math.MaxInt, math.MinInt)
	put("first ID", func(s *api.Snap, n int) { s.ID, s.Parent = n, 0 }, 0, -1, big+1, math.MaxInt, math.MinInt)
	put("Parent", func(s *api.Snap, n int) { s.Parent = n }, -1, -big, 9, 10, big, math.MaxInt, math.MinInt)
	put("Parent of 1", func(s *api.Snap, n int) { s.ID, s.Parent = 1, n }, -1, 1, 2)
	put("Parent of the last", func(s *api.Snap, n int) { s.ID, s.Parent = big, n }, -1, big, big+1)
	put("Seq", func(s *api.Snap, n int) { s.Seq = n }, -1, -big, big+1, math.MaxInt, math.MinInt)
	put("Day", func(s *api.Snap, n int) { s.Day = n }, -1, -api.MaxDay, api.MaxDay+1, big, math.MaxInt, math.MinInt)
	put("Index", func(s *api.Snap, n int) { s.Index = n }, -1, -big, big+1, math.MaxInt, math.MinInt)
	return wrong
}

// P70: numbers out of bounds, ahead of all else that is wrong.
func TestBounds(t *testing.T) {
	for name, s := range outOfBounds() {
		checkWrong(t, s, -1, api.ErrBound)
		if n := strings.Fields(name); len(n[len(n)-1]) <= 11 {
			checkUnread(t, wholeOf(s), -1, api.ErrBound)
		}
		s.Op = "what"
		checkWrong(t, s, -1, api.ErrBound)
		s.Files = make([]api.File, api.MaxFiles+1)
		checkWrong(t, s, -1, api.ErrBound)
		s.Files = []api.File{{}}
		checkWrong(t, s, -1, api.ErrBound)
	}
	checkWrong(t, api.Snap{}, -1, api.ErrBound)
}

// P70: the numbers that are just in bounds.
func TestInBounds(t *testing.T) {
	for _, s := range []api.Snap{{ID: 1}, {ID: big}, {ID: 9, Parent: 8}, {ID: 9, Parent: 1}, {ID: 9, Seq: big}, {ID: 9, Day: api.MaxDay}, {ID: 9, Index: big}} {
		for _, op := range []string{"start", "append", "delete", "rewrite"} {
			s.Op = op
			if text, err := Text(s); text != wholeOf(s) || err != nil || Check(s) != nil {
				t.Errorf("%v: %q, %v", s, text, err)
			}
			if got, err := Read(wholeOf(s)); !same(got, s) || err != nil {
				t.Errorf("Read of %v: %v, %v", s, got, err)
			}
		}
	}
}

// P70: an Op that is none, ahead of what is wrong in the list.
func TestOps(t *testing.T) {
	for _, op := range []string{"", "x", "Start", "START", "star", "starts", "appended", "append ", " append", "delete\n", "rewrite\x00", "start append", "pack", "expire", "0", "-", "\xff", strings.Repeat("start", 1<<12)} {
		s := snapOf(fileOf("data/2", 5, 6))
		s.Op = op
		checkWrong(t, s, -1, api.ErrKind)
		if !strings.ContainsAny(op, " \n") && len(op) < api.MaxText-100 {
			checkUnread(t, wholeOf(s), -1, api.ErrKind)
		}
		s.Seq = 5
		checkWrong(t, s, -1, api.ErrKind)
		s.Files = make([]api.File, api.MaxFiles+1)
		checkWrong(t, s, -1, api.ErrKind)
		s.Files = []api.File{{}}
		checkWrong(t, s, -1, api.ErrKind)
	}
}

// P70: what list.Check says, with its place, ahead of a file's Seq.
func TestWrongLists(t *testing.T) {
	checkWrong(t, snapOf(long(api.MaxFiles+1)...), -1, api.ErrFull)
	checkWrong(t, snapOf(make([]api.File, 1000)...), -1, api.ErrFull)
	late := fileOf("data/1", 1, 7)
	for want, f := range map[error]api.File{
		api.ErrName:  {Path: "snap/9", Part: "eu", N: 1, Seq: 1},
		api.ErrKind:  {Path: "gone/9", Part: "eu", N: 1, Seq: 1},
		api.ErrBound: {Path: "data/9", Part: "eu", N: 0, Seq: 1},
		api.ErrOrder: {Path: "data/1", Part: "eu", N: 1, Seq: 1},
	} {
		checkWrong(t, snapOf(late, f), 1, want)
		checkWrong(t, snapOf(late, fileOf("data/2", 1, 7), f, late), 2, want)
		checkWrong(t, snapOf(append(long(api.MaxFiles-1), f)...), api.MaxFiles-1, want)
	}
	checkWrong(t, snapOf(api.File{}), 0, api.ErrName)
	checkWrong(t, snapOf(fileOf("gone/1", 1, 1), fileOf("data/2", 1, 1)), 1, api.ErrOrder)
	checkWrong(t, snapOf(fileOf("data/10", 1, 1), fileOf("data/2", 1, 1)), 1, api.ErrOrder)
}

// P70: the first file whose Seq is above the snap's.
func TestLateFiles(t *testing.T) {
	for _, c := range []struct {
		seq  int
		seqs []int
		at   int
	}{
		{0, []int{1}, 0},
		{0, []int{big}, 0},
		{6, []int{7}, 0},
		{6, []int{6, 7}, 1},
		{6, []int{1, 6, 8, 7, 9}, 2},
		{6, []int{5, 7, 5}, 1},
		{big - 1, []int{big - 1, big}, 1},
	} {
		for _, kind := range []string{"data/", "gone/"} {
			s := snapOf()
			s.Seq = c.seq
			for i, seq := range c.seqs {
				s.Files = append(s.Files, fileOf(kind+strconv.Itoa(i+1), 1, seq))
			}
			checkWrong(t, s, c.at, api.ErrOrder)
			checkUnread(t, wholeOf(s), c.at, api.ErrOrder)
			s.Seq = slices.Max(c.seqs)
			if err := Check(s); err != nil {
				t.Errorf("Check(%v): %v", s, err)
			}
			if got, err := Read(wholeOf(s)); !same(got, s) || err != nil {
				t.Errorf("Read of %v: %v, %v", s, got, err)
			}
		}
	}
}

// P70: a text may have so many bytes, and not one more.
func TestLongTexts(t *testing.T) {
	most := whole("snap 1 0 0 0 0 start", strings.Repeat("x", api.MaxText-len("snap 1 0 0 0 0 start 1234567890\n")))
	fill := strings.Repeat("x", api.MaxText)
	checkUnread(t, fill, -1, api.ErrText)
	checkUnread(t, fill+"x", -1, api.ErrBound)
	checkUnread(t, "snap 1 0 0 0 0 start 0\n"+fill, -1, api.ErrBound)
	for len(most) < api.MaxText {
		most = whole("snap 1 0 0 0 0 start", strings.TrimPrefix(most[strings.Index(most, "\n"):], "\n")+"x")
	}
	if len(most) != api.MaxText {
		t.Fatal(len(most))
	}
	checkUnread(t, most, 0, api.ErrText)
	checkUnread(t, most[:api.MaxText-1]+"y", -1, api.ErrSum)
	checkUnread(t, most+"x", -1, api.ErrBound)
	checkUnread(t, strings.Repeat("\n", api.MaxText), -1, api.ErrText)
	checkUnread(t, strings.Repeat("\n", api.MaxText+1), -1, api.ErrBound)
}

// P70: a first line that is none, ahead of a sum that is another one.
func TestFirstLines(t *testing.T) {
	for _, line := range []string{
		"", " ", "snap", "snap ", "x", "snap 1 0 0 0 0 start", "snap 1 0 0 0 0 start ", "snap 1 0 0 0 start 0", "snap 1 0 0 0 0 0", "snap 1 0 0 0 0 start 0 ", "snap 1 0 0 0 0 start 0 0",
		" snap 1 0 0 0 0 start 0", "snap  1 0 0 0 0 start 0", "snap 1 0 0 0 0 start  0", "snap 1 0 0 0 0  start 0", "snap 1 0 0 0  start 0", "snap\t1 0 0 0 0 start 0", "snap 1 0 0 0 0 start 0\r",
		"Snap 1 0 0 0 0 start 0", "SNAP 1 0 0 0 0 start 0", "snaps 1 0 0 0 0 start 0", "sna 1 0 0 0 0 start 0", "meta 1 0 0 0 0 start 0", "data 1 0 0 0 0 start 0", " 1 0 0 0 0 start 0", "1 0 0 0 0 start 0",
		"snap start 1 0 0 0 0 0", "snap 1 0 0 0 start 0 0", "snap 1 0 0 0 0 start x", "snap 1 0 0 0 0 0 start", "snap x 0 0 0 0 start 0", "snap 1 x 0 0 0 start 0", "snap 1 0 x 0 0 start 0", "snap 1 0 0 x 0 start 0", "snap 1 0 0 0 x start 0",
		"snap 01 0 0 0 0 start 0", "snap 1 00 0 0 0 start 0", "snap 1 0 00 0 0 start 0", "snap 1 0 0 00 0 start 0", "snap 1 0 0 0 00 start 0", "snap 1 0 0 0 0 start 00",
		"snap +1 0 0 0 0 start 0", "snap 1 -0 0 0 0 start 0", "snap 1 0 +0 0 0 start 0", "snap 1 0 0 1_0 0 start 0", "snap 1 0 0 0x1 0 start 0", "snap 1 0 0 0 1. start 0", "snap 1 0 0 0 0 start -0", "snap 1 0 0 0 0 start +0", "snap 1 0 0 0 0 start 1e1",
		"snap 100000000000 0 0 0 0 start 0", "snap 1 -10000000000 0 0 0 start 0", "snap 1 0 100000000000 0 0 start 0", "snap 1 0 0 0 0 start 100000000000", "snap 1 0 0 0 0 start 99999999999999999999", "snap - 0 0 0 0 start 0", "snap 1 0 0 0 0 start -",
	} {
		checkUnread(t, line, -1, api.ErrText)
		checkUnread(t, line+"\n", -1, api.ErrText)
		checkUnread(t, line+"\nx", -1, api.ErrText)
	}
	for text := range rightSnaps() {
		first, _, _ := strings.Cut(text, "\n")
		checkUnread(t, first, -1, api.ErrText)
		checkUnread(t, "\n"+text, -1, api.ErrText)
		checkUnread(t, " "+text, -1, api.ErrText)
		checkUnread(t, "x"+text, -1, api.ErrText)
	}
}

// P70: another sum, ahead of what is wrong in the list, and of numbers out of bounds. What is written like a number, but is no sum, is another one too.
func TestSums(t *testing.T) {
	for _, text := range []string{
		"snap 1 0 0 0 0 start 1\n", "snap 1 0 0 0 0 start -1\n", "snap 1 0 0 0 0 start 4294967295\n", "snap 1 0 0 0 0 start 4294967296\n", "snap 1 0 0 0 0 start 99999999999\n", "snap 1 0 0 0 0 start -9999999999\n",
		"snap 0 0 0 0 0 start 1\n", "snap 1 1 0 0 0 what 1\n", "snap 1 0 0 0 0 start 0\nx", "snap 1 0 0 0 0 start 0\nx\n", "snap 1 0 0 0 0 start 0\n\n", "snap 0 0 0 0 0  5\nx", "snap 1 0 0 0 0 start 0\n" + strings.Repeat("\n", api.MaxFiles+1),
		"snap 9 4 6 3 2 append 0\ndata/2 eu 5 0 5 6\n", "snap 9 4 6 3 2 append 6593834560\ndata/2 eu 5 0 5 6\n", "snap 9 4 6 3 2 append -1996100032\ndata/2 eu 5 0 5 6\n",
	} {
		checkUnread(t, text, -1, api.ErrSum)
	}
	// One byte of the files another one: that is told, wherever it is.
	text := wholeOf(snapOf(fileOf("data/2", 5, 6), fileOf("gone/8", 2, 6)))
	for at := strings.Index(text, "\n") + 1; at < len(text); at++ {
		for _, b := range []byte{text[at] ^ 1, text[at] ^ 128, 0, '\n', ' ', '7'} {
			if b != text[at] {
				checkUnread(t, text[:at]+string([]byte{b})+text[at+1:], -1, api.ErrSum)
			}
		}
		checkUnread(t, text[:at], -1, api.ErrSum)
	}
}

// P70: what list.Read says, with the line's place behind the first one, ahead of what Check says.
func TestWrongBodies(t *testing.T) {
	right := "data/2 eu 5 0 5 7\n"
	for body, want := range map[string]api.Fault{
		"x":                               {At: 0, Err: api.ErrText},
		"\n":                              {At: 0, Err: api.ErrText},
		"x\n":                             {At: 0, Err: api.ErrText},
		"data/2 eu 5 0 5 7":               {At: 0, Err: api.ErrText},
		right + "\n":                      {At: 1, Err: api.ErrText},
		right + "data/3 eu 5 0 5 7":       {At: 1, Err: api.ErrText},
		right + "data/3 eu 5 0 5 07\n":    {At: 1, Err: api.ErrText},
		right + "data/3 eu 5 0 5 7\r\n":   {At: 1, Err: api.ErrText},
		right + "snap/3 eu 5 0 5 7\n":     {At: 1, Err: api.ErrName},
		right + "gone/3 eu 5 0 5 7\n":     {At: 1, Err: api.ErrKind},
		right + "data/3 eu 41 0 5 7\n":    {At: 1, Err: api.ErrBound},
		right + "data/3 eu 5 0 5 0\n":     {At: 1, Err: api.ErrBound},
		right + right:                     {At: 1, Err: api.ErrOrder},
		right + "data/1 eu 5 0 5 1\n":     {At: 1, Err: api.ErrOrder},
		"gone/2 - 5 0 5 7\n" + right:      {At: 1, Err: api.ErrOrder},
		right + "gone/1 - 1 0 5 7\n\nx":   {At: 2, Err: api.ErrText},
		strings.Repeat("\n", 61):          {At: -1, Err: api.ErrFull},
		strings.Repeat("\n", 60) + "x":    {At: -1, Err: api.ErrFull},
		strings.Repeat(right, 60) + right: {At: -1, Err: api.ErrFull},
	} {
		for _, head := range []string{"snap 9 4 6 3 2 append", "snap 0 4 6 3 2 append", "snap 9 9 6 3 2 what", "snap 9 4 6 3 2 ", "snap 9 4 -1 100001 2 append"} {
			checkUnread(t, whole(head, body), want.At, want.Err)
		}
	}
}

// P70: behind a list that is right, what Check says: bounds, then the Op, then a file's Seq.
func TestWrongHeads(t *testing.T) {
	body := "data/2 eu 5 0 5 6\ngone/8 - 2 0 5 7\n"
	for head, want := range map[string]api.Fault{
		"snap 0 0 6 3 2 what":             {At: -1, Err: api.ErrBound},
		"snap -1 -2 6 3 2 append":         {At: -1, Err: api.ErrBound},
		"snap 1073741825 4 6 3 2 append":  {At: -1, Err: api.ErrBound},
		"snap 9 9 6 3 2 append":           {At: -1, Err: api.ErrBound},
		"snap 9 -1 6 3 2 ":                {At: -1, Err: api.ErrBound},
		"snap 9 4 -1 3 2 append":          {At: -1, Err: api.ErrBound},
		"snap 9 4 1073741825 3 2 append":  {At: -1, Err: api.ErrBound},
		"snap 9 4 6 -1 2 append":          {At: -1, Err: api.ErrBound},
		"snap 9 4 6 100001 2 append":      {At: -1, Err: api.ErrBound},
		"snap 9 4 6 3 -1 append":          {At: -1, Err: api.ErrBound},
		"snap 9 4 6 3 99999999999 append": {At: -1, Err: api.ErrBound},
		"snap 9 4 6 3 2 what":             {At: -1, Err: api.ErrKind},
		"snap 9 4 6 3 2 ":                 {At: -1, Err: api.ErrKind},
		"snap 9 4 6 3 2 Append":           {At: -1, Err: api.ErrKind},
		"snap 9 4 6 3 2 append":           {At: 1, Err: api.ErrOrder},
		"snap 9 4 5 3 2 append":           {At: 0, Err: api.ErrOrder},
		"snap 9 4 0 3 2 append":           {At: 0, Err: api.ErrOrder},
	} {
		checkUnread(t, whole(head, body), want.At, want.Err)
	}
}

// P71: the first snap has an ID and an Op, and nothing else.
func TestFirst(t *testing.T) {
	want := api.Snap{ID: 1, Op: "start"}
	if s := First(); !same(s, want) || Check(s) != nil {
		t.Error(s, Check(s))
	}
	if text, err := Text(First()); text != "snap 1 0 0 0 0 start 0\n" || err != nil {
		t.Error(text, err)
	}
	if rows, keys := Rows(First()); rows != 0 || keys != 0 {
		t.Error(rows, keys)
	}
	s := First()
	s.Files = append(s.Files, fileOf("data/1", 1, 1))
	s.ID = 7
	if again := First(); !same(again, want) {
		t.Error(again)
	}
}

// P71: rows of data, keys of gone; of a snap that is not right none (checkWrong asks for that, too).
func TestRows(t *testing.T) {
	for _, c := range []struct {
		files      []api.File
		rows, keys int
	}{
		{nil, 0, 0},
		{[]api.File{fileOf("data/1", 1, 1)}, 1, 0},
		{[]api.File{fileOf("gone/1", 1, 1)}, 0, 1},
		{[]api.File{fileOf("data/2", 5, 6), fileOf("gone/8", 2, 6)}, 5, 2},
		{[]api.File{fileOf("data/1", 40, 1), fileOf("data/2", 40, 2), fileOf("data/10", 3, 3), fileOf("gone/1", 40, 6), fileOf("gone/7", 7, 1)}, 83, 47},
		{[]api.File{fileOf("data/2", 5, 7), fileOf("gone/8", 2, 6)}, 0, 0},
		{[]api.File{fileOf("data/2", 5, 6), fileOf("data/2", 5, 6)}, 0, 0},
		{[]api.File{fileOf("data/2", 5, 6), fileOf("gone/8", 41, 6)}, 0, 0},
		{long(api.MaxFiles + 1), 0, 0},
	} {
		if rows, keys := Rows(snapOf(c.files...)); rows != c.rows || keys != c.keys {
			t.Errorf("Rows of %v: %d, %d", c.files, rows, keys)
		}
	}
}

// P3, P4: what is handed over is only read, what lies behind it is left, and what is answered is new memory.
func TestMemory(t *testing.T) {
	all := long(8)
	was := slices.Clone(all)
	s := snapOf()
	s.Files = all[:5]
	Check(s)
	Rows(s)
	text, err := Text(s)
	if err != nil || !slices.Equal(all, was) {
		t.Error(err, "what was given has changed")
	}
	clear(all)
	one, _ := Read(text)
	two, _ := Read(text)
	if !slices.Equal(one.Files, was[:5]) || !slices.Equal(two.Files, was[:5]) {
		t.Fatal(one, two)
	}
	clear(one.Files[:cap(one.Files)])
	if !slices.Equal(two.Files, was[:5]) {
		t.Error("two answers share memory")
	}
	if three, _ := Read(text); !slices.Equal(three.Files, was[:5]) {
		t.Error("an answer was kept")
	}
}

// randomSnap is right.
func randomSnap(r *rand.Rand) api.Snap {
	id := r.Intn(1<<r.Intn(31)) + 1
	s := api.Snap{ID: id, Parent: r.Intn(id), Seq: r.Intn(1<<r.Intn(31) + 1), Day: r.Intn(api.MaxDay + 1), Index: r.Intn(big + 1), Op: []string{"start", "append", "delete", "rewrite"}[r.Intn(4)]}
	if s.Seq == 0 {
		return s
	}
	for range r.Intn(api.MaxFiles + 1) {
		f := fileOf([]string{"data/", "gone/"}[r.Intn(2)]+strconv.Itoa(r.Intn(100)+1), r.Intn(api.MaxRows)+1, r.Intn(s.Seq)+1)
		f.Lo, f.Hi = -r.Intn(big+1), r.Intn(big+1)
		if l, err := list.Add(s.Files, f); err == nil {
			s.Files = l
		}
	}
	return s
}

// P71, P72: many snaps are read as they were written, and have their files' rows.
func TestManySnaps(t *testing.T) {
	r := rand.New(rand.NewSource(7))
	for range 3000 {
		s := randomSnap(r)
		text, err := Text(s)
		if text != wholeOf(s) || err != nil || Check(s) != nil {
			t.Fatal(s, text, err)
		}
		if got, err := Read(text); !same(got, s) || err != nil {
			t.Fatal(s, got, err)
		}
		wantRows, wantKeys := 0, 0
		for _, f := range s.Files {
			if f.Part == "-" {
				wantKeys += f.N
			} else {
				wantRows += f.N
			}
		}
		if rows, keys := Rows(s); rows != wantRows || keys != wantKeys {
			t.Fatal(s, rows, keys)
		}
	}
}

// P1, P3, P72: whatever the text: a snap that is written the same, or an error of those that are named, and no snap.
func FuzzRead(f *testing.F) {
	for text := range rightSnaps() {
		f.Add(text)
		f.Add(text + "x")
		f.Add(strings.Replace(text, " 0 ", " -1 ", 1))
	}
	f.Add(whole("snap 9 4 6 3 2 what", "x\n"))
	f.Add(whole("snap 9 4 6 3 2 append", "data/2 eu 5 0 5 7\n"))
	f.Add(whole("snap 9 4 6 3 2 append", strings.Repeat("\n", api.MaxFiles+1)))
	f.Fuzz(func(t *testing.T, text string) {
		// Few texts have their sum by chance: the same one with its sum is asked for, too.
		first, body, _ := strings.Cut(text, "\n")
		head := first[:strings.LastIndex(first, " ")+1]
		for _, text := range []string{text, whole(strings.TrimSuffix(head, " "), body)} {
			s, err := Read(text)
			if err == nil {
				if back, err := Text(s); back != text || err != nil || Check(s) != nil {
					t.Errorf("Read(%q): %v, which is written %q, %v", text, s, back, err)
				}
				continue
			}
			var fault *api.Fault
			named := []error{api.ErrText, api.ErrBound, api.ErrSum, api.ErrKind, api.ErrFull}
			if errors.As(err, &fault) {
				named, err = []error{api.ErrText, api.ErrName, api.ErrKind, api.ErrBound, api.ErrOrder}, fault.Err
			}
			if !reflect.DeepEqual(s, api.Snap{}) || !slices.Contains(named, err) || len(text) > api.MaxText && (fault != nil || err != api.ErrBound) {
				t.Errorf("Read(%q): %v, %#v", text, s, err)
			}
		}
	})
}

// P1, P70, P72: whatever snap is handed over: a text that is read as it was written, or Check's error and no text.
func FuzzText(f *testing.F) {
	f.Add(9, 4, 6, 3, 2, "delete", "data/2", "eu", 5, 0, 5, 6)
	f.Add(1, 0, 0, 0, 0, "start", "gone/2", "-", 5, 0, 5, 6)
	f.Add(0, -1, 0, 100001, 1<<31, "", "", "", 0, 9, 5, 0)
	f.Fuzz(func(t *testing.T, id, parent, seq, day, index int, op, path, part string, n, lo, hi, fileSeq int) {
		s := api.Snap{ID: id, Parent: parent, Seq: seq, Day: day, Index: index, Op: op, Files: []api.File{{Path: path, Part: part, N: n, Lo: lo, Hi: hi, Seq: fileSeq}}}
		for range 2 {
			bad := Check(s)
			text, err := Text(s)
			if !reflect.DeepEqual(err, bad) || (err == nil) != (text != "") {
				t.Errorf("Text(%v): %q, %v, %v", s, text, err, bad)
			}
			if err == nil {
				if got, err := Read(text); !same(got, s) || err != nil {
					t.Errorf("Read(%q): %v, %v", text, got, err)
				}
			}
			s.Files = nil
		}
	})
}

func ExampleText() {
	text, err := Text(First())
	fmt.Printf("%q %v\n", text, err)
	// Output: "snap 1 0 0 0 0 start 0\n" <nil>
}
