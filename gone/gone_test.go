package gone

import (
	"errors"
	"fmt"
	"hash/crc32"
	"math"
	"math/rand"
	"slices"
	"strings"
	"testing"

	"deedbox/api"
	"deedbox/data"
)

const big = api.MaxNum

// fileOf a body, with a head that says these numbers and the body's sum, by the library's word.
func fileOf(n, lo, hi int, body string) string {
	return fmt.Sprintf("gone %d %d %d %d\n%s", n, lo, hi, crc32.ChecksumIEEE([]byte(body)), body)
}

// upTo: keys from a first one up to a last one.
func upTo(first, last int) []int {
	var keys []int
	for key := first; key <= last; key++ {
		keys = append(keys, key)
	}
	return keys
}

func linesOf(keys []int) string {
	s := ""
	for _, key := range keys {
		s += fmt.Sprintln(key)
	}
	return s
}

// eachOnce is the plainest way to what a file has: the least key that is greater than the one ahead, time and again.
func eachOnce(keys []int) []int {
	var rising []int
	for {
		var next *int
		for i, key := range keys {
			behind := len(rising) == 0 || key > rising[len(rising)-1]
			if behind && (next == nil || key < *next) {
				next = &keys[i]
			}
		}
		if next == nil {
			return rising
		}
		rising = append(rising, *next)
	}
}

func someKeys(rnd *rand.Rand) []int {
	keys := make([]int, rnd.Intn(api.MaxRows+1))
	for i := range keys {
		keys[i] = rnd.Intn(60) - 30
		if rnd.Intn(4) == 0 {
			keys[i] = rnd.Intn(2*big+1) - big
		}
	}
	return keys
}

// wantNone: no keys, and that error: bare where at is -1, else a Fault with that place.
func wantNone(t *testing.T, what string, keys []int, err error, at int, want error) {
	t.Helper()
	f, isFault := err.(*api.Fault)
	right := err == want
	if at >= 0 {
		right = isFault && f.At == at && f.Err == want
	}
	if len(keys) > 0 || !right {
		t.Errorf("%.60q: %v, %#v, not %v at %d", what, keys, err, want, at)
	}
}

// P40: files, to the byte: keys rising, each once, however often and in whatever order they were given.
func TestMake(t *testing.T) {
	for _, c := range []struct {
		keys []int
		want string
	}{
		{nil, "gone 0 0 0 0\n"},
		{[]int{}, "gone 0 0 0 0\n"},
		{[]int{5}, "gone 1 5 5 54344023\n5\n"},
		{[]int{0}, fileOf(1, 0, 0, "0\n")},
		{[]int{-5}, fileOf(1, -5, -5, "-5\n")},
		{[]int{5, 5, 5}, fileOf(1, 5, 5, "5\n")},
		{[]int{7, -3, 7, 0}, fileOf(3, -3, 7, "-3\n0\n7\n")},
		{[]int{10, 9, 2, 1}, fileOf(4, 1, 10, "1\n2\n9\n10\n")},
		{[]int{-1, -2, -10, -9}, fileOf(4, -10, -1, "-10\n-9\n-2\n-1\n")},
		{[]int{1, 2, 1, 2, 1}, fileOf(2, 1, 2, "1\n2\n")},
		{[]int{big, -big}, fileOf(2, -big, big, "-1073741824\n1073741824\n")},
		{[]int{big, big}, fileOf(1, big, big, "1073741824\n")},
		{upTo(1, 40), fileOf(40, 1, 40, linesOf(upTo(1, 40)))},
		{append(upTo(1, 40), upTo(1, 40)...), fileOf(40, 1, 40, linesOf(upTo(1, 40)))},
		{slices.Repeat([]int{3, 2}, 5000), fileOf(2, 2, 3, "2\n3\n")},
	} {
		s, err := Make(c.keys)
		if s != c.want || err != nil {
			t.Errorf("Make(%v): %q, %v, not %q", c.keys, s, err, c.want)
		}
		if got, err := Read(c.want); !slices.Equal(got, eachOnce(c.keys)) || err != nil {
			t.Errorf("Read(%q): %v, %v", c.want, got, err)
		}
	}
}

// P40: too many, each once, come ahead of wrong ones, and wrong ones count; of these the first of the list as it was given, not as it would rise.
func TestMakeErrors(t *testing.T) {
	for _, c := range []struct {
		keys []int
		at   int
		want error
	}{
		{upTo(1, 41), -1, api.ErrFull},
		{append(upTo(1, 41), upTo(1, 41)...), -1, api.ErrFull},
		{append([]int{big + 1}, upTo(1, 40)...), -1, api.ErrFull},
		{append(upTo(1, 40), math.MinInt), -1, api.ErrFull},
		{upTo(big+1, big+41), -1, api.ErrFull},
		{upTo(big+1, big+40), 0, api.ErrBound},
		{[]int{big + 1}, 0, api.ErrBound},
		{[]int{-big - 1}, 0, api.ErrBound},
		{[]int{math.MaxInt}, 0, api.ErrBound},
		{[]int{math.MinInt}, 0, api.ErrBound},
		{[]int{5, big + 1, math.MinInt}, 1, api.ErrBound},
		{[]int{5, 5, -big - 1, 5, -big - 1}, 2, api.ErrBound},
		{append(slices.Repeat([]int{9}, 100), big+1), 100, api.ErrBound},
		{append(upTo(1, 39), big+1, big+1), 39, api.ErrBound},
	} {
		s, err := Make(c.keys)
		wantNone(t, fmt.Sprint(c.keys), nil, err, c.at, c.want)
		if s != "" {
			t.Errorf("%q with an error", s)
		}
	}
}

// P40: a first line that is none; it comes ahead of everything behind it. A file of rows is none.
func TestReadWrongHead(t *testing.T) {
	rows, err := data.Make([]api.Row{{Part: "a", Key: 1}})
	if err != nil {
		t.Fatal(err)
	}
	for _, s := range []string{
		rows, "data 0 0 0 0\n", "", "g", "gone", "gone 0 0 0 0", "gone 0 0 0 0\r", "\n", " \n", "\ngone 0 0 0 0\n",
		"Gone 0 0 0 0\n", "gon 0 0 0 0\n", "gones 0 0 0 0\n", " gone 0 0 0 0\n", "0 0 0 0\n", " 0 0 0 0\n",
		"gone\n", "gone 0\n", "gone 0 0 0\n", "gone 0 0 0 0 0\n", "gone 0 0 0 0 \n", "gone  0 0 0 0\n", "gone 0 0 0  0\n", "gone\t0 0 0 0\n", "gone 0 0 0 0\r\n",
		"gone x 0 0 x\n-\n", "gone 0 0 0 x\nno key", "gone 1 0 0\n00",
	} {
		keys, err := Read(s)
		wantNone(t, s, keys, err, -1, api.ErrText)
	}
	for at := 1; at <= 4; at++ {
		for _, word := range []string{"", "x", "-", "--1", "+0", "+1", "-0", "00", "01", "-01", "0x0", "0.0", "1e1", "1_0", "000000000001", "100000000000"} {
			words := []string{"gone", "0", "0", "0", "0"}
			words[at] = word
			s := strings.Join(words, " ") + "\n"
			keys, err := Read(s)
			wantNone(t, s, keys, err, -1, api.ErrText)
		}
	}
}

// P40: another sum comes ahead of what is wrong with the lines and with the head's other numbers.
func TestReadWrongSum(t *testing.T) {
	for _, s := range []string{
		"gone 0 0 0 1\n", "gone 0 0 0 -1\n", "gone 0 0 0 4294967295\n", "gone 0 0 0 4294967296\n", "gone 9 9 9 1\n",
		"gone 1 5 5 54344024\n5\n", "gone 1 5 5 54344022\n5\n", "gone 1 5 5 -54344023\n5\n", "gone 1 5 5 4349311319\n5\n", "gone 1 5 5 54344023\n6\n",
		"gone 1 0 0 7\nno key", "gone 1 0 0 7\n0", "gone 1 0 0 7\n\n", "gone 2 0 0 7\n0\n0\n", "gone 41 1 41 7\n" + linesOf(upTo(1, 41)),
	} {
		keys, err := Read(s)
		wantNone(t, s, keys, err, -1, api.ErrSum)
	}
}

// P40: the first line that is not right, with its place behind the head.
func TestReadWrongLine(t *testing.T) {
	for _, c := range []struct {
		body string
		at   int
		want error
	}{
		{"5", 0, api.ErrText},
		{"x", 0, api.ErrText},
		{"5\r", 0, api.ErrText},
		{"5\n6", 1, api.ErrText},
		{"5\n5", 1, api.ErrText},
		{"5\n ", 1, api.ErrText},
		{"\n", 0, api.ErrText},
		{"\n5\n", 0, api.ErrText},
		{"5\n\n", 1, api.ErrText},
		{"5\r\n", 0, api.ErrText},
		{" 5\n", 0, api.ErrText},
		{"5 \n", 0, api.ErrText},
		{"5 6\n", 0, api.ErrText},
		{"5,6\n", 0, api.ErrText},
		{"05\n", 0, api.ErrText},
		{"+5\n", 0, api.ErrText},
		{"-0\n", 0, api.ErrText},
		{"-\n", 0, api.ErrText},
		{"--5\n", 0, api.ErrText},
		{"0x5\n", 0, api.ErrText},
		{"5.0\n", 0, api.ErrText},
		{"1_0\n", 0, api.ErrText},
		{"a 5 0\n", 0, api.ErrText},
		{"５\n", 0, api.ErrText},
		{"5\x00\n", 0, api.ErrText},
		{"5\n05\n", 1, api.ErrText},
		{"5\n4x\n", 1, api.ErrText},
		{"100000000000\n", 0, api.ErrText},
		{"9223372036854775808\n", 0, api.ErrText},
		{"99999999999\n", 0, api.ErrBound},
		{"-9999999999\n", 0, api.ErrBound},
		{"1073741825\n", 0, api.ErrBound},
		{"-1073741825\n", 0, api.ErrBound},
		{"5\n1073741825\n", 1, api.ErrBound},
		{"5\n-1073741825\n", 1, api.ErrBound},
		{"5\n5\n", 1, api.ErrOrder},
		{"0\n0\n", 1, api.ErrOrder},
		{"5\n4\n", 1, api.ErrOrder},
		{"10\n9\n", 1, api.ErrOrder},
		{"-1\n-2\n", 1, api.ErrOrder},
		{"0\n-1073741824\n", 1, api.ErrOrder},
		{"1\n3\n2\nx\n", 2, api.ErrOrder},
		{"3\n2\n1\n", 1, api.ErrOrder},
		{"1\n2\n3\n3\n", 3, api.ErrOrder},
		{"1\nx\n0\n0", 1, api.ErrText},
	} {
		// The head's numbers do not matter yet.
		for _, s := range []string{fileOf(2, 5, 5, c.body), fileOf(-7, 9, 8, c.body)} {
			keys, err := Read(s)
			wantNone(t, s, keys, err, c.at, c.want)
		}
	}
}

// P40: too many keys come behind what is wrong with a line, wherever that stands, and ahead of a wrong head.
func TestReadTooManyKeys(t *testing.T) {
	many := linesOf(upTo(1, 41))
	for _, c := range []struct {
		s    string
		at   int
		want error
	}{
		{fileOf(41, 1, 41, many), -1, api.ErrFull},
		{fileOf(40, 1, 40, many), -1, api.ErrFull},
		{fileOf(0, 5, 6, many), -1, api.ErrFull},
		{fileOf(42, 1, 41, many+"x\n"), 41, api.ErrText},
		{fileOf(42, 1, 41, many+"42"), 41, api.ErrText},
		{fileOf(42, 1, 41, many+"1073741825\n"), 41, api.ErrBound},
		{fileOf(42, 1, 41, many+"41\n"), 41, api.ErrOrder},
		{fileOf(500, -99, 400, linesOf(upTo(-99, 400))), -1, api.ErrFull},
	} {
		keys, err := Read(c.s)
		wantNone(t, c.s, keys, err, c.at, c.want)
	}
	if keys, err := Read(fileOf(40, 1, 40, linesOf(upTo(1, 40)))); !slices.Equal(keys, upTo(1, 40)) || err != nil {
		t.Errorf("%v, %v", keys, err)
	}
}

// P40: a head that does not say what is there.
func TestReadWrongShape(t *testing.T) {
	body := "-3\n0\n4\n9\n"
	if keys, err := Read(fileOf(4, -3, 9, body)); !slices.Equal(keys, []int{-3, 0, 4, 9}) || err != nil {
		t.Errorf("%v, %v", keys, err)
	}
	for _, s := range []string{
		fileOf(3, -3, 9, body), fileOf(5, -3, 9, body), fileOf(-4, -3, 9, body), fileOf(0, -3, 9, body), fileOf(99999999999, -3, 9, body),
		fileOf(4, -2, 9, body), fileOf(4, -4, 9, body), fileOf(4, 0, 9, body), fileOf(4, -3, 8, body), fileOf(4, -3, 10, body), fileOf(4, 9, -3, body),
		fileOf(1, 0, 0, ""), fileOf(0, 1, 0, ""), fileOf(0, 0, 1, ""), fileOf(0, -1, -1, ""),
		fileOf(1, 0, 5, "5\n"), fileOf(1, 0, 0, "5\n"), fileOf(1, -5, 0, "-5\n"), fileOf(1, 0, 0, "-5\n"),
	} {
		keys, err := Read(s)
		wantNone(t, s, keys, err, -1, api.ErrShape)
	}
}

// P40: too long a text comes first; one of MaxText bytes is looked into.
func TestReadTooLong(t *testing.T) {
	for _, c := range []struct {
		s    string
		at   int
		want error
	}{
		{strings.Repeat("x", api.MaxText), -1, api.ErrText},
		{strings.Repeat("x", api.MaxText+1), -1, api.ErrBound},
		{"gone 0 0 0 7\n" + strings.Repeat("x", api.MaxText-13), -1, api.ErrSum},
		{"gone 0 0 0 7\n" + strings.Repeat("x", api.MaxText-12), -1, api.ErrBound},
		{fileOfSize(t, api.MaxText), 0, api.ErrText},
		{fileOfSize(t, api.MaxText+1), -1, api.ErrBound},
		{strings.Repeat("\n", 1<<20), -1, api.ErrBound},
	} {
		keys, err := Read(c.s)
		wantNone(t, c.s, keys, err, c.at, c.want)
	}
}

// fileOfSize has that many bytes, a right sum, and one long line that is no number.
func fileOfSize(t *testing.T, size int) string {
	t.Helper()
	// Sums have more digits or fewer, so that one digit alone may leave a size out.
	for _, digit := range strings.Split("123456789", "") {
		for long := size - 40; long <= size; long++ {
			if s := fileOf(1, 0, 0, strings.Repeat(digit, long)+"\n"); len(s) == size {
				return s
			}
		}
	}
	t.Fatalf("no file of %d bytes", size)
	return ""
}

// P41: what is in the list, at its ends too, and nothing beside it; also where a list does not rise.
func TestHas(t *testing.T) {
	lists := [][]int{nil, {}, {0}, {5}, {-5, 5}, {1, 2, 3}, {-3, 0, 7}, {1, 3, 5, 7, 9}, upTo(-20, 19), {-big, 0, big}, {math.MinInt, math.MaxInt}, {4, 4, 4, 6}, {9, 1, 5}}
	for _, keys := range lists {
		for _, key := range append(upTo(-25, 25), -big-1, -big, -big+1, big-1, big, big+1, math.MinInt, math.MinInt+1, math.MaxInt-1, math.MaxInt) {
			want := false
			for _, k := range keys {
				want = want || k == key
			}
			if got := Has(keys, key); got != want {
				t.Errorf("Has(%v, %d) is %t", keys, key, got)
			}
		}
	}
}

// P41: a list ends with its length, whatever its memory has behind it.
func TestHasNothingBehind(t *testing.T) {
	keys := []int{1, 2, 3, 4}
	if Has(keys[:3], 4) || Has(keys[:0], 1) || !Has(keys[:3], 3) {
		t.Error("what lies behind a list's length counts")
	}
}

// P42: keys are read as they were written, rising, in whatever order they were given; each of them is there, and no other one.
func TestReadAsWritten(t *testing.T) {
	rnd := rand.New(rand.NewSource(42))
	for range 500 {
		keys := someKeys(rnd)
		s, err := Make(keys)
		if err != nil {
			t.Fatal(keys, err)
		}
		got, err := Read(s)
		if err != nil || !slices.Equal(got, eachOnce(keys)) {
			t.Fatalf("%v became %v, %v", keys, got, err)
		}
		for key := -32; key <= 32; key++ {
			if Has(got, key) != slices.Contains(keys, key) {
				t.Fatalf("%v became %v: has %d: %t", keys, got, key, Has(got, key))
			}
		}
		rnd.Shuffle(len(keys), func(i, j int) { keys[i], keys[j] = keys[j], keys[i] })
		if again, err := Make(append(keys, got...)); again != s || err != nil {
			t.Fatalf("%v in another order, and twice: %q, %v, not %q", keys, again, err, s)
		}
	}
}

// A file with one byte another one is none, as a file of rows; nor is one that is cut short, or longer.
func TestHurtFiles(t *testing.T) {
	for _, keys := range [][]int{nil, {0}, {5}, {-10, 1, 2}, upTo(1, 12)} {
		s, err := Make(keys)
		if err != nil {
			t.Fatal(keys, err)
		}
		checkBytes(t, s)
		for at := range len(s) {
			if got, err := Read(s[:at]); len(got) > 0 || err == nil {
				t.Errorf("%q: %v, %v", s[:at], got, err)
			}
		}
		for _, more := range []string{"\n", " ", "\x00", "99\n", s} {
			if got, err := Read(s + more); len(got) > 0 || err != api.ErrSum {
				t.Errorf("%q, with %q behind: %v, %v", s, more, got, err)
			}
		}
	}
}

func checkBytes(t *testing.T, s string) {
	t.Helper()
	text := []byte(s)
	for at, was := range text {
		for b := range 256 {
			if byte(b) == was {
				continue
			}
			text[at] = byte(b)
			if keys, err := Read(string(text)); len(keys) > 0 || err == nil {
				t.Errorf("%q, with %q at %d: %v, %v", s, byte(b), at, keys, err)
			}
		}
		text[at] = was
	}
}

// P3, P4: a list is only lent, up to its length; what is answered is new memory.
func TestMemory(t *testing.T) {
	whole := []int{3, 2, 3, 1, big + 1}
	was := slices.Clone(whole)
	s, err := Make(whole[:4])
	if s != fileOf(3, 1, 3, "1\n2\n3\n") || err != nil || !slices.Equal(whole, was) {
		t.Fatalf("%q, %v; %v became %v", s, err, was, whole)
	}
	keys, _ := Read(s)
	clear(keys)
	if again, err := Read(s); err != nil || !slices.Equal(again, []int{1, 2, 3}) {
		t.Errorf("what is written into an answer shows: %v, %v", again, err)
	}
}

// P1, P3: whatever the text: keys that make it again, or an error of those that are named, and no keys.
func FuzzRead(f *testing.F) {
	for _, s := range []string{"", "gone 0 0 0 0\n", "gone 0 0 0 0", "data 0 0 0 0\n", "gone 1 5 5 54344023\n5\n", "0\n", "5\n5\n", "5\n4\n", "1073741825\n", fileOf(1, 0, 5, "5\n")} {
		f.Add(s, false)
		f.Add(s, true)
	}
	f.Fuzz(func(t *testing.T, s string, summed bool) {
		if summed {
			s = fileOf(strings.Count(s, "\n"), 0, 0, s)
		}
		keys, err := Read(s)
		if err != nil {
			checkReadError(t, s, keys, err)
			return
		}
		if again, err := Make(keys); again != s || err != nil {
			t.Errorf("Read(%q): %v, which makes %q, %v", s, keys, again, err)
		}
	})
}

func checkReadError(t *testing.T, s string, keys []int, err error) {
	t.Helper()
	var f *api.Fault
	named := []error{api.ErrBound, api.ErrText, api.ErrSum, api.ErrFull, api.ErrShape}
	if errors.As(err, &f) {
		named = []error{api.ErrText, api.ErrBound, api.ErrOrder}
		err = f.Err
	}
	if len(keys) > 0 || !slices.Contains(named, err) {
		t.Errorf("Read(%q): %v, %v", s, keys, err)
	}
}
