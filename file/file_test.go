package file

import (
	"errors"
	"fmt"
	"hash/crc32"
	"math"
	"math/rand"
	"slices"
	"strconv"
	"strings"
	"testing"

	"deedbox/api"
	"deedbox/data"
	"deedbox/gone"
)

const big = api.MaxNum

func fileOf(path, part string, n, lo, hi, seq int) api.File {
	return api.File{Path: path, Part: part, N: n, Lo: lo, Hi: hi, Seq: seq}
}

// bodyOf a file's lines, with a head that says these numbers and the right sum, by the library's word.
func bodyOf(kind string, n, lo, hi int, lines string) string {
	return fmt.Sprintf("%s %d %d %d %d\n%s", kind, n, lo, hi, crc32.ChecksumIEEE([]byte(lines)), lines)
}

func rowsText(t *testing.T, l ...api.Row) string {
	t.Helper()
	s, err := data.Make(l)
	if err != nil {
		t.Fatal(l, err)
	}
	return s
}

func keysText(t *testing.T, keys ...int) string {
	t.Helper()
	s, err := gone.Make(keys)
	if err != nil {
		t.Fatal(keys, err)
	}
	return s
}

// wrongPaths: none of them is a path.
func wrongPaths() []string {
	paths := []string{
		"", "/", "//", "1", "/1", "data", "gone", "data1", "gone1", "data 1", "data\\1",
		"Data/1", "DATA/1", "dat/1", "datas/1", "gon/1", "gones/1", "snap/1", "list/1", "meta/1", "other/5", "datagone/1", "data/gone/1", "-/1",
		" data/1", "data /1", "/data/1", "./data/1", "data//1", "data/1/", "data/1/1", "gone/1/1", "data/./1",
	}
	for _, word := range []string{
		"", " ", "0", "00", "01", "001", "-0", "-1", "-1073741824", "+1", "--1", "x", "1x", "x1", "1 ", " 1", "1\n", "\n1", "1\t", "1\x00", "1.0", "1e1", "0x1", "1_0", "\u0661", "１",
		"1073741825", "2147483648", "4294967297", "9999999999", "10000000000", "99999999999", "100000000000", "01073741824", "18446744073709551617", strings.Repeat("1", 1<<16),
	} {
		paths = append(paths, "data/"+word, "gone/"+word)
	}
	return paths
}

// P50: a path is data or gone, and its number.
func TestNumber(t *testing.T) {
	for _, kind := range []string{"data", "gone"} {
		for _, n := range []int{1, 2, 9, 10, 12, 99, 100, 1234567890 / 2, 1000000000, big - 1, big} {
			path := kind + "/" + strconv.Itoa(n)
			if k, got, err := Number(path); k != kind || got != n || err != nil {
				t.Errorf("Number(%q): %q, %d, %v", path, k, got, err)
			}
		}
	}
}

// P50: what is no path is ErrName, bare, with nothing beside it; of a File too.
func TestNoPath(t *testing.T) {
	for _, path := range wrongPaths() {
		if kind, n, err := Number(path); kind != "" || n != 0 || err != api.ErrName {
			t.Errorf("Number(%.40q): %q, %d, %v", path, kind, n, err)
		}
		for _, f := range []api.File{fileOf(path, "eu", 1, 0, 0, 1), fileOf(path, "-", 1, 0, 0, 1), fileOf(path, "", 0, 1, 0, 0)} {
			if err := Check(f); err != api.ErrName {
				t.Errorf("Check(%.40q): %v", path, err)
			}
			if s := Text(f); s != "" {
				t.Errorf("Text: %.40q", s)
			}
		}
	}
}

// rightFiles by their texts: ordinary ones, and each bound's last right number.
func rightFiles() map[string]api.File {
	return map[string]api.File{
		"data/3 eu 2 -1 5 4":                                      fileOf("data/3", "eu", 2, -1, 5, 4),
		"gone/7 - 3 3 5 3":                                        fileOf("gone/7", "-", 3, 3, 5, 3),
		"data/1 a 1 0 0 1":                                        fileOf("data/1", "a", 1, 0, 0, 1),
		"gone/1 - 1 0 0 1":                                        fileOf("gone/1", "-", 1, 0, 0, 1),
		"data/10 0 40 -10 -9 20":                                  fileOf("data/10", "0", 40, -10, -9, 20),
		"gone/10 - 40 9 10 20":                                    fileOf("gone/10", "-", 40, 9, 10, 20),
		"data/5 b12 7 100 200 30":                                 fileOf("data/5", "b12", 7, 100, 200, 30),
		"data/5 twelvesigns0 7 100 200 30":                        fileOf("data/5", "twelvesigns0", 7, 100, 200, 30),
		"data/5 n1073741824 7 -1073741824 -1073741824 30":         fileOf("data/5", "n1073741824", 7, -big, -big, 30),
		"data/1073741824 z9 40 -1073741824 1073741824 1073741824": fileOf("data/1073741824", "z9", 40, -big, big, big),
		"gone/1073741824 - 40 1073741824 1073741824 1073741824":   fileOf("gone/1073741824", "-", 40, big, big, big),
		"gone/1073741823 - 39 -1073741823 1073741823 1073741823":  fileOf("gone/1073741823", "-", 39, -big+1, big-1, big-1),
		"data/2 000000000000 40 -1073741824 -1073741824 1":        fileOf("data/2", "000000000000", 40, -big, -big, 1),
	}
}

// P50, P51, P52: what is right is written and read to the byte.
func TestRightFiles(t *testing.T) {
	for s, f := range rightFiles() {
		if err := Check(f); err != nil {
			t.Errorf("Check(%v): %v", f, err)
		}
		if got := Text(f); got != s {
			t.Errorf("Text(%v) is %q, not %q", f, got, s)
		}
		if got, err := Read(s); got != f || err != nil {
			t.Errorf("Read(%q): %v, %v", s, got, err)
		}
	}
}

// P50: what is not right, with the first error of those that are named.
func TestCheckErrors(t *testing.T) {
	for _, c := range []struct {
		f    api.File
		want error
	}{
		{api.File{}, api.ErrName},
		{fileOf("data/0", "-", 0, 1, 0, 0), api.ErrName},
		{fileOf("data/1", "", 1, 0, 0, 1), api.ErrKind},
		{fileOf("data/1", "-", 1, 0, 0, 1), api.ErrKind},
		{fileOf("data/1", "-", 0, 1, 0, 0), api.ErrKind},
		{fileOf("data/1", "EU", 1, 0, 0, 1), api.ErrKind},
		{fileOf("data/1", "eU", 1, 0, 0, 1), api.ErrKind},
		{fileOf("data/1", "e u", 1, 0, 0, 1), api.ErrKind},
		{fileOf("data/1", "e-u", 1, 0, 0, 1), api.ErrKind},
		{fileOf("data/1", "eu ", 1, 0, 0, 1), api.ErrKind},
		{fileOf("data/1", "eu\n", 1, 0, 0, 1), api.ErrKind},
		{fileOf("data/1", "é", 1, 0, 0, 1), api.ErrKind},
		{fileOf("data/1", "\xff", 1, 0, 0, 1), api.ErrKind},
		{fileOf("data/1", "thirteensigns", 1, 0, 0, 1), api.ErrKind},
		{fileOf("data/1", strings.Repeat("a", 1<<16), 1, 0, 0, 1), api.ErrKind},
		{fileOf("gone/1", "", 1, 0, 0, 1), api.ErrKind},
		{fileOf("gone/1", "eu", 1, 0, 0, 1), api.ErrKind},
		{fileOf("gone/1", "--", 1, 0, 0, 1), api.ErrKind},
		{fileOf("gone/1", " -", 1, 0, 0, 1), api.ErrKind},
		{fileOf("gone/1", "eu", 0, 1, 0, 0), api.ErrKind},
	} {
		checkWrong(t, c.f, c.want)
	}
	for _, n := range []int{0, -1, api.MaxRows + 1, math.MinInt, math.MaxInt} {
		checkWrong(t, fileOf("data/1", "eu", n, 0, 0, 1), api.ErrBound)
		checkWrong(t, fileOf("gone/1", "-", n, 0, 0, 1), api.ErrBound)
	}
	for _, seq := range []int{0, -1, big + 1, math.MinInt, math.MaxInt} {
		checkWrong(t, fileOf("data/1", "eu", 1, 0, 0, seq), api.ErrBound)
		checkWrong(t, fileOf("gone/1", "-", 1, 0, 0, seq), api.ErrBound)
	}
	for _, keys := range [][2]int{
		{1, 0}, {0, -1}, {5, -5}, {big, -big}, {big, big - 1}, {-big - 1, 0}, {-big - 1, -big - 1}, {-big - 1, big}, {0, big + 1}, {big + 1, big + 1}, {-big, big + 1},
		{math.MinInt, 0}, {0, math.MaxInt}, {math.MinInt, math.MaxInt}, {math.MaxInt, math.MinInt},
	} {
		checkWrong(t, fileOf("data/1", "eu", 2, keys[0], keys[1], 1), api.ErrBound)
		checkWrong(t, fileOf("gone/1", "-", 2, keys[0], keys[1], 1), api.ErrBound)
	}
}

// checkWrong: Check's error is bare, and such a file has no text.
func checkWrong(t *testing.T, f api.File, want error) {
	t.Helper()
	if err := Check(f); err != want {
		t.Errorf("Check(%.60v): %v, not %v", f, err, want)
	}
	if s := Text(f); s != "" {
		t.Errorf("Text(%.60v) is %.60q", f, s)
	}
}

// What is known of a file need not be so: more rows than there are keys from Lo to Hi are none of Check's matters.
func TestCheckLooksAtBoundsAlone(t *testing.T) {
	for _, f := range []api.File{fileOf("data/1", "eu", 40, 5, 5, 1), fileOf("gone/1", "-", 40, 5, 5, 1), fileOf("gone/9", "-", 1, 5, 6, 1), fileOf("data/1", "b3", 2, 0, 1, 1)} {
		if err := Check(f); err != nil {
			t.Errorf("Check(%v): %v", f, err)
		}
	}
}

// P51: wrong texts: ErrText ahead of Check's errors, and no file.
func TestReadErrors(t *testing.T) {
	for want, texts := range map[error][]string{
		api.ErrText: {
			"", " ", "     ", "      ", "data/3", "data/3 eu 2 -1 5", "data/3 eu 2 -1 5 4 ", " data/3 eu 2 -1 5 4", "data/3 eu 2 -1 5 4 4", "data/3  eu 2 -1 5 4", "data/3 eu 2 -1 5  4",
			"data/3 eu 2 -1 5 4\n", "data/3\teu\t2\t-1\t5\t4", "data/3 eu 2 -1 5\t4", "data/3 eu 2 -1 5 ", "x - 0 0 0 x", "data/3 - x 1 0 0", "data/0 eu 2 -1 5", strings.Repeat(" ", 1<<16),
		},
		api.ErrName: {
			"data/x - 0 0 0 0", "data/0 eu 1 0 0 1", "data/01 eu 1 0 0 1", "snap/1 eu 1 0 0 1", "data1 eu 1 0 0 1", " eu 1 0 0 1", "data/1073741825 eu 1 0 0 1", "eu data/1 1 0 0 1",
			"gone/0 - 0 1 0 0", "gone/\t1 - 1 0 0 1", "  0 0 0 0",
		},
		api.ErrKind: {
			"data/1 - 0 1 0 0", "data/1  1 0 0 1", "gone/1  1 0 0 1", "gone/1 eu 0 0 0 0", "data/1 thirteensigns 1 0 0 1", "data/1 EU 1 0 0 1", "gone/1 -- 1 0 0 1", "data/1 eu\n 1 0 0 1",
		},
		api.ErrBound: {
			"data/1 eu 0 0 0 1", "data/1 eu -1 0 0 1", "data/1 eu 41 0 0 1", "data/1 eu 99999999999 0 0 1", "data/1 eu 1 2 1 1", "data/1 eu 1 -1 -2 1", "data/1 eu 1 0 1073741825 1", "data/1 eu 1 -1073741825 0 1",
			"data/1 eu 1 -9999999999 99999999999 1", "data/1 eu 1 0 0 0", "data/1 eu 1 0 0 -1", "data/1 eu 1 0 0 1073741825", "gone/1 - 0 0 0 1", "gone/1 - 41 0 0 1", "gone/1 - 1 1 0 1", "gone/1 - 1 0 0 0",
		},
	} {
		for _, s := range texts {
			wantNone(t, s, want)
		}
	}
}

func wantNone(t *testing.T, s string, want error) {
	t.Helper()
	if f, err := Read(s); f != (api.File{}) || err != want {
		t.Errorf("Read(%.60q): %v, %v, not %v", s, f, err, want)
	}
}

// P51: a number that is none, in each place, comes ahead of what is wrong ahead of it.
func TestReadNumbers(t *testing.T) {
	for _, right := range []string{"data/3 eu 2 -1 5 4", "gone/3 - 2 -1 5 4", "x - 0 9 5 0"} {
		for at := 2; at <= 5; at++ {
			for _, word := range []string{"", "x", "-", "--1", "+1", "+0", "-0", "00", "02", "-01", "1x", "0x1", "1.0", "1e1", "1_0", "１", "1\n", "000000000001", "100000000000", "-10000000000"} {
				words := strings.Split(right, " ")
				words[at] = word
				wantNone(t, strings.Join(words, " "), api.ErrText)
			}
		}
	}
}

// P51: a file's text tells how many there are, and the least and the greatest key, which of rows stand anywhere.
func TestOf(t *testing.T) {
	var many []api.Row
	var keys []int
	for i := range api.MaxRows {
		many = append(many, api.Row{Part: "a", Key: 3 * i})
		keys = append(keys, -3*i)
	}
	for _, c := range []struct {
		path, part, s string
		seq           int
		n, lo, hi     int
	}{
		{"data/7", "b1", rowsText(t, api.Row{Part: "x", Key: 9}, api.Row{Part: "y", Key: -2}), 3, 2, -2, 9},
		{"data/7", "b1", rowsText(t, api.Row{Part: "x", Key: -2}, api.Row{Part: "y", Key: 9}), 3, 2, -2, 9},
		{"data/1", "twelvesigns0", rowsText(t, api.Row{Part: "a", Key: 5}), 1, 1, 5, 5},
		{"data/1", "a", rowsText(t, api.Row{Part: "a", Key: 4}, api.Row{Part: "b", Key: -6}, api.Row{Part: "c", Key: 8}, api.Row{Part: "d"}), 1, 4, -6, 8},
		{"data/1", "a", rowsText(t, api.Row{Part: "a", Key: 5}, api.Row{Part: "a", Key: 5}), 1, 2, 5, 5},
		{"data/1", "a", rowsText(t, api.Row{Part: "a", Key: 5, Val: -9}, api.Row{Part: "a", Key: 6, Val: 99}), 1, 2, 5, 6},
		{"data/1073741824", "a", rowsText(t, api.Row{Part: "a", Key: big}, api.Row{Part: "b", Key: -big}), big, 2, -big, big},
		{"data/2", "a", rowsText(t, many...), 2, 40, 0, 117},
		{"gone/7", "-", keysText(t, 5, 3, 4), 3, 3, 3, 5},
		{"gone/7", "-", keysText(t, 5, 5), 3, 1, 5, 5},
		{"gone/1", "-", keysText(t, -7), 1, 1, -7, -7},
		{"gone/1073741824", "-", keysText(t, big, 0, -big), big, 3, -big, big},
		{"gone/2", "-", keysText(t, keys...), 2, 40, -117, 0},
	} {
		want := fileOf(c.path, c.part, c.n, c.lo, c.hi, c.seq)
		if f, err := Of(c.path, c.part, c.s, c.seq); f != want || err != nil {
			t.Errorf("Of(%q, %q, %q, %d): %v, %v", c.path, c.part, c.s, c.seq, f, err)
		}
	}
}

// P51: errors of a path, then of its text, by what the path says it is, then Check's: all of them bare.
func TestOfErrors(t *testing.T) {
	rows, keys := rowsText(t, api.Row{Part: "a", Key: 5}), keysText(t, 5)
	noRows, noKeys := rowsText(t), keysText(t)
	for _, c := range []struct {
		path, part, s string
		seq           int
		want          error
	}{
		{"", "-", "", 0, api.ErrName},
		{"data/0", "eu", rows, 1, api.ErrName},
		{"data", "eu", rows, 1, api.ErrName},
		{"snap/1", "-", "x", 0, api.ErrName},
		{"gone/1073741825", "-", keys, 1, api.ErrName},

		{"data/7", "-", keys, 0, api.ErrText},
		{"gone/7", "eu", rows, 1, api.ErrText},
		{"data/7", "eu", noKeys, 1, api.ErrText},
		{"gone/7", "-", noRows, 1, api.ErrText},
		{"data/7", "-", "", 0, api.ErrText},
		{"gone/7", "eu", "", 0, api.ErrText},
		{"data/7", "-", strings.Repeat("x", api.MaxText+1), 0, api.ErrBound},
		{"gone/7", "x", strings.Repeat("x", api.MaxText+1), 0, api.ErrBound},
		{"data/7", "-", rows + "x", 0, api.ErrSum},
		{"gone/7", "x", keys + "x", 0, api.ErrSum},
		{"data/7", "-", bodyOf("data", 2, 1, 2, "a 2 0\na 1 0\n"), 0, api.ErrOrder},
		{"data/7", "-", bodyOf("data", 2, 1, 2, "a 1 0\nA 2 0\n"), 0, api.ErrName},
		{"data/7", "-", bodyOf("data", 2, 1, 2, "a 1 0\na 2 x\n"), 0, api.ErrText},
		{"data/7", "-", bodyOf("data", 2, 1, 2, "a 1 0\na 2 1073741825\n"), 0, api.ErrBound},
		{"data/7", "-", bodyOf("data", 41, 1, 1, strings.Repeat("a 1 0\n", 41)), 0, api.ErrFull},
		{"data/7", "-", bodyOf("data", 2, 1, 1, "a 1 0\n"), 0, api.ErrShape},
		{"gone/7", "x", bodyOf("gone", 2, 1, 1, "1\n1\n"), 0, api.ErrOrder},
		{"gone/7", "x", bodyOf("gone", 2, 1, 1, "1\n2"), 0, api.ErrText},
		{"gone/7", "x", bodyOf("gone", 2, 1, 1, "1\n1073741825\n"), 0, api.ErrBound},
		{"gone/7", "x", bodyOf("gone", 1, 0, 1, "1\n"), 0, api.ErrShape},

		{"data/7", "-", rows, 0, api.ErrKind},
		{"data/7", "", rows, 1, api.ErrKind},
		{"data/7", "thirteensigns", rows, 1, api.ErrKind},
		{"data/7", "-", noRows, 0, api.ErrKind},
		{"gone/7", "eu", keys, 0, api.ErrKind},
		{"gone/7", "", noKeys, 0, api.ErrKind},
		{"data/7", "eu", rows, 0, api.ErrBound},
		{"data/7", "eu", rows, -1, api.ErrBound},
		{"data/7", "eu", rows, big + 1, api.ErrBound},
		{"gone/7", "-", keys, 0, api.ErrBound},
		{"gone/7", "-", keys, big + 1, api.ErrBound},
		{"gone/7", "-", keys, math.MinInt, api.ErrBound},
		{"data/7", "eu", noRows, 1, api.ErrBound},
		{"gone/7", "-", noKeys, 1, api.ErrBound},
	} {
		if f, err := Of(c.path, c.part, c.s, c.seq); f != (api.File{}) || err != c.want {
			t.Errorf("Of(%q, %q, %.60q, %d): %v, %#v, not %v", c.path, c.part, c.s, c.seq, f, err, c.want)
		}
	}
}

func someFile(rnd *rand.Rand) api.File {
	f := fileOf("data/", "", 1+rnd.Intn(api.MaxRows), rnd.Intn(2*big+1)-big, 0, 1+rnd.Intn(big))
	f.Hi = f.Lo + rnd.Intn(big-f.Lo+1)
	for range 1 + rnd.Intn(12) {
		f.Part += string("abcxyz0189"[rnd.Intn(10)])
	}
	if rnd.Intn(2) == 0 {
		f.Path, f.Part = "gone/", "-"
	}
	f.Path += strconv.Itoa(1 + rnd.Intn(big))
	return f
}

// P52: what is known is read as it was written; and two things that are known never have one text.
func TestReadAsWritten(t *testing.T) {
	rnd := rand.New(rand.NewSource(52))
	texts := map[string]api.File{}
	for range 2000 {
		f := someFile(rnd)
		s := Text(f)
		if s == "" {
			t.Fatalf("%v has no text: %v", f, Check(f))
		}
		if got, err := Read(s); got != f || err != nil {
			t.Fatalf("%v was written %q, and read %v, %v", f, s, got, err)
		}
		if other, ok := texts[s]; ok && other != f {
			t.Fatalf("%v and %v are written %q", f, other, s)
		}
		texts[s] = f
	}
}

// P52: what is known of a file's text is read as it was written, too.
func TestOfIsReadAsWritten(t *testing.T) {
	rnd := rand.New(rand.NewSource(52))
	for range 300 {
		var l []api.Row
		var keys []int
		for range 1 + rnd.Intn(api.MaxRows) {
			key := rnd.Intn(2001) - 1000
			l = append(l, api.Row{Part: string("abc"[rnd.Intn(3)]), Key: key, Val: rnd.Intn(9)})
			keys = append(keys, key)
		}
		slices.Sort(keys)
		a, errA := Of("data/4", "b1", rowsText(t, l...), 6)
		b, errB := Of("gone/5", "-", keysText(t, keys...), 6)
		lo, hi, once := keys[0], keys[len(keys)-1], len(slices.Compact(slices.Clone(keys)))
		if errA != nil || errB != nil || a != fileOf("data/4", "b1", len(l), lo, hi, 6) || b != fileOf("gone/5", "-", once, lo, hi, 6) {
			t.Fatalf("%v: %v, %v; %v, %v", l, a, errA, b, errB)
		}
		for _, f := range []api.File{a, b} {
			if got, err := Read(Text(f)); got != f || err != nil {
				t.Fatalf("%v was read %v, %v", f, got, err)
			}
		}
	}
}

// P1, P3: whatever the text: a file that has this text, or an error of those that are named, bare, and no file.
func FuzzRead(f *testing.F) {
	for s := range rightFiles() {
		f.Add(s)
	}
	for _, s := range []string{"", "data/1 eu 1 0 0 1 ", "data/01 eu 1 0 0 1", "data/1 - 1 0 0 1", "gone/1 eu 1 0 0 1", "data/1 eu 41 0 0 1", "data/1 eu 1 1 0 1", "data/1 eu 1 0 -0 1"} {
		f.Add(s)
	}
	f.Fuzz(func(t *testing.T, s string) {
		got, err := Read(s)
		if err == nil && (Text(got) != s || Check(got) != nil) {
			t.Errorf("Read(%q): %v, which is written %q", s, got, Text(got))
		}
		if err != nil && (got != api.File{} || !slices.Contains([]error{api.ErrText, api.ErrName, api.ErrKind, api.ErrBound}, err)) {
			t.Errorf("Read(%q): %v, %v", s, got, err)
		}
	})
}

// P1, P3: whatever is known: it has a text, which is read to the same, just where it is right; and its path is what its number says.
func FuzzText(f *testing.F) {
	for _, x := range rightFiles() {
		f.Add(x.Path, x.Part, x.N, x.Lo, x.Hi, x.Seq)
	}
	f.Add("data/01", "eu", 1, 0, 0, 1)
	f.Add("gone/1", "eu", 0, 1, 0, big+1)
	f.Fuzz(func(t *testing.T, path, part string, n, lo, hi, seq int) {
		x := fileOf(path, part, n, lo, hi, seq)
		s := Text(x)
		if (s != "") != (Check(x) == nil) {
			t.Errorf("%v: %v, and is written %q", x, Check(x), s)
		}
		if got, err := Read(s); s != "" && (got != x || err != nil) {
			t.Errorf("%v was written %q, and read %v, %v", x, s, got, err)
		}
		kind, number, err := Number(path)
		if err == nil && (kind != "data" && kind != "gone" || kind+"/"+strconv.Itoa(number) != path || number < 1 || number > big) {
			t.Errorf("Number(%q): %q, %d", path, kind, number)
		}
	})
}

// P1, P3: whatever a file's text: what is known of it, or an error without a place.
func FuzzOf(f *testing.F) {
	for _, s := range []string{"", "data 0 0 0 0\n", "gone 0 0 0 0\n", "gone 1 5 5 54344023\n5\n", "data 1 1 1 2746444545\neu 1 2\n", bodyOf("gone", 2, 1, 1, "1\n1\n")} {
		f.Add("data/1", "eu", s, 1)
		f.Add("gone/1", "-", s, 1)
	}
	f.Fuzz(func(t *testing.T, path, part, s string, seq int) {
		got, err := Of(path, part, s, seq)
		var fault *api.Fault
		if err != nil && (got != api.File{} || errors.As(err, &fault)) {
			t.Errorf("Of(%q, %q, %q, %d): %v, %#v", path, part, s, seq, got, err)
		}
		if err == nil && (got.Path != path || got.Part != part || got.Seq != seq || Check(got) != nil) {
			t.Errorf("Of(%q, %q, %q, %d): %v", path, part, s, seq, got)
		}
	})
}

// IsGone, Bare: what the layers above share.
func TestShared(t *testing.T) {
	for path, want := range map[string]bool{"gone/1": true, "gone/1073741824": true, "data/1": false, "gone/0": false, "gone": false, "": false} {
		if got := IsGone(api.File{Path: path}); got != want {
			t.Errorf("IsGone of %q: %v", path, got)
		}
	}
	for _, err := range []error{nil, api.ErrFull, &api.Fault{At: 3, Err: api.ErrFull}} {
		want := err
		if err != nil {
			want = api.ErrFull
		}
		if got := Bare(err); got != want {
			t.Errorf("Bare(%#v): %#v", err, got)
		}
	}
}
