package data

import (
	"errors"
	"fmt"
	"hash/crc32"
	"math"
	"math/rand"
	"slices"
	"strings"
	"testing"

	"deedbox/api"
	"deedbox/row"
)

const big = api.MaxNum

func rowOf(part string, key, val int) api.Row { return api.Row{Part: part, Key: key, Val: val} }

// fileOf a body, with a head that says these numbers and the body's sum, by the library's word.
func fileOf(n, lo, hi int, body string) string {
	return fmt.Sprintf("data %d %d %d %d\n%s", n, lo, hi, crc32.ChecksumIEEE([]byte(body)), body)
}

func someRows(rnd *rand.Rand) []api.Row {
	l := make([]api.Row, rnd.Intn(api.MaxRows+1))
	for i := range l {
		l[i] = rowOf([]string{"a", "b", "ab", "0", "eightcha"}[rnd.Intn(5)], rnd.Intn(9)-4, rnd.Intn(5)-2)
		if rnd.Intn(4) == 0 {
			l[i].Key = rnd.Intn(2*big+1) - big
		}
	}
	return l
}

// wantNone: no rows, and that error: bare where at is -1, else a Fault with that place.
func wantNone(t *testing.T, what string, l []api.Row, err error, at int, want error) {
	t.Helper()
	f, isFault := err.(*api.Fault)
	right := err == want
	if at >= 0 {
		right = isFault && f.At == at && f.Err == want
	}
	if len(l) > 0 || !right {
		t.Errorf("%.60q: %v, %#v, not %v at %d", what, l, err, want, at)
	}
}

// P30: the sum, by numbers that are known.
func TestKnownSums(t *testing.T) {
	for s, want := range map[string]uint32{
		"":                        0,
		"a":                       0xE8B7BE43,
		"123456789":               0xCBF43926,
		"\x00":                    0xD202EF8D,
		"\xff":                    0xFF000000,
		"\xff\xff\xff\xff":        0xFFFFFFFF,
		strings.Repeat("\x00", 4): 0x2144DF1C,
	} {
		if got := Sum(s); got != want {
			t.Errorf("Sum(%q) is %#x, not %#x", s, got, want)
		}
	}
}

// P30: the sum as the document spells it out, bit by bit; each byte in turn, and longer texts, also such as no file may have.
func TestSum(t *testing.T) {
	rnd := rand.New(rand.NewSource(30))
	texts := []string{strings.Repeat("xyz", 99), "é\x00\n", strings.Repeat("a", api.MaxText+1)}
	for b := range 256 {
		texts = append(texts, string([]byte{byte(b)}), string([]byte{'a', byte(b), 0}))
	}
	for range 200 {
		b := make([]byte, rnd.Intn(300))
		rnd.Read(b)
		texts = append(texts, string(b))
	}
	for _, s := range texts {
		if got := Sum(s); got != bitSum(s) || got != crc32.ChecksumIEEE([]byte(s)) {
			t.Errorf("Sum(%.20q) is %#x", s, got)
		}
	}
}

func bitSum(s string) uint32 {
	sum := uint32(0xFFFFFFFF)
	for i := range len(s) {
		for bit := range 8 {
			out := sum&1 ^ uint32(s[i]>>bit)&1
			sum = sum>>1 ^ out*0xEDB88320
		}
	}
	return sum ^ 0xFFFFFFFF
}

// P30: files, to the byte.
func TestMake(t *testing.T) {
	for want, l := range map[string][]api.Row{
		"data 0 0 0 0\n":                                             nil,
		"data 1 5 5 518495956\neu 5 0\n":                             {rowOf("eu", 5, 0)},
		"data 1 -5 -5 3182424359\neu -5 0\n":                         {rowOf("eu", -5, 0)},
		fileOf(2, 0, 0, "a 0 0\na 0 0\n"):                            {rowOf("a", 0, 0), rowOf("a", 0, 0)},
		fileOf(3, -3, 7, "eu 7 0\nus -3 0\nus 3 1\n"):                {rowOf("us", 3, 1), rowOf("eu", 7, 0), rowOf("us", -3, 0)},
		fileOf(3, 1, 9, "a 4 0\nb 1 0\nc 9 0\n"):                     {rowOf("c", 9, 0), rowOf("b", 1, 0), rowOf("a", 4, 0)},
		fileOf(3, -9, -1, "a -4 0\nb -9 0\nc -1 0\n"):                {rowOf("a", -4, 0), rowOf("b", -9, 0), rowOf("c", -1, 0)},
		fileOf(3, 2, 10, "a 2 -1\na 2 1\na 10 -5\n"):                 {rowOf("a", 10, -5), rowOf("a", 2, 1), rowOf("a", 2, -1)},
		fileOf(2, -big, big, "a 1073741824 0\nb -1073741824 0\n"):    {rowOf("b", -big, 0), rowOf("a", big, 0)},
		fileOf(2, 0, 0, "a 0 -1073741824\na 0 1073741824\n"):         {rowOf("a", 0, big), rowOf("a", 0, -big)},
		fileOf(1, 7, 7, "eightcha 7 8\n"):                            {rowOf("eightcha", 7, 8)},
		fileOf(api.MaxRows, 0, 0, strings.Repeat("a 0 0\n", 40)):     slices.Repeat([]api.Row{rowOf("a", 0, 0)}, 40),
		fileOf(api.MaxRows, 3, 3, strings.Repeat("09az 3 -3\n", 40)): slices.Repeat([]api.Row{rowOf("09az", 3, -3)}, 40),
	} {
		if s, err := Make(l); s != want || err != nil {
			t.Errorf("Make(%v): %q, %v, not %q", l, s, err, want)
		}
		if got, err := Read(want); !slices.Equal(got, row.Sort(l)) || err != nil {
			t.Errorf("Read(%q): %v, %v", want, got, err)
		}
	}
	if s, err := Make([]api.Row{}); s != "data 0 0 0 0\n" || err != nil {
		t.Errorf("none: %q, %v", s, err)
	}
}

// P30: too many come ahead of wrong ones; of these the first of the list, as it was given, not as it would be sorted.
func TestMakeErrors(t *testing.T) {
	good, last := rowOf("a", 1, 1), rowOf("z", 1, 1)
	for _, c := range []struct {
		l    []api.Row
		at   int
		want error
	}{
		{slices.Repeat([]api.Row{good}, 41), -1, api.ErrFull},
		{make([]api.Row, 41), -1, api.ErrFull},
		{make([]api.Row, 5000), -1, api.ErrFull},
		{make([]api.Row, 40), 0, api.ErrName},
		{[]api.Row{{}}, 0, api.ErrName},
		{[]api.Row{rowOf("A", big+1, 0)}, 0, api.ErrName},
		{[]api.Row{good, rowOf("a", big+1, 0), {}}, 1, api.ErrBound},
		{[]api.Row{good, rowOf("a", 0, -big-1), rowOf("a", math.MinInt, 0)}, 1, api.ErrBound},
		{[]api.Row{last, rowOf("z", math.MaxInt, 0), good, rowOf("", 0, 0)}, 1, api.ErrBound},
		{[]api.Row{last, last, rowOf("a\n", 0, 0), good}, 2, api.ErrName},
		{append(slices.Repeat([]api.Row{good}, 39), rowOf("ninechars", 0, 0)), 39, api.ErrName},
	} {
		s, err := Make(c.l)
		wantNone(t, fmt.Sprint(c.l), nil, err, c.at, c.want)
		if s != "" {
			t.Errorf("%q with an error", s)
		}
	}
}

// P31: a first line that is none; it comes ahead of everything behind it.
func TestReadWrongHead(t *testing.T) {
	for _, s := range []string{
		"", "d", "data", "data 0 0 0 0", "data 0 0 0 0\r", "\n", " \n", "\ndata 0 0 0 0\n",
		"Data 0 0 0 0\n", "dat 0 0 0 0\n", "datas 0 0 0 0\n", "gone 0 0 0 0\n", " data 0 0 0 0\n", "0 0 0 0\n", " 0 0 0 0\n", "0 0 0 0 0\n",
		"data\n", "data 0\n", "data 0 0 0\n", "data 0 0 0 0 0\n", "data 0 0 0 0 \n", "data  0 0 0 0\n", "data 0  0 0 0\n", "data 0 0 0  0\n", "data 0 0 0 \n", "data\t0 0 0 0\n", "data 0 0 0 0\r\n",
		"data x 0 0 x\nA\n", "data 0 0 0 x\nno row", "data 1 0 0\nA 0 0",
	} {
		l, err := Read(s)
		wantNone(t, s, l, err, -1, api.ErrText)
	}
}

// P31: each of the head's numbers is as a row's.
func TestReadWrongHeadNumbers(t *testing.T) {
	for at := 1; at <= 4; at++ {
		for _, word := range []string{"", "x", "-", "--1", "+0", "+1", "-0", "00", "01", "-01", "0x0", "0.0", "1e1", "1_0", "０", "0\x00", "000000000001", "100000000000", "-10000000000", "18446744073709551616", strings.Repeat("0", 9999)} {
			words := []string{"data", "0", "0", "0", "0"}
			words[at] = word
			s := strings.Join(words, " ") + "\n"
			l, err := Read(s)
			wantNone(t, s, l, err, -1, api.ErrText)
		}
	}
}

// P31: another sum comes ahead of what is wrong with the lines and with the head's other numbers; a number that is no sum at all is another one too.
func TestReadWrongSum(t *testing.T) {
	body := "eu 5 0\n"
	sum := int(Sum(body))
	for _, n := range []int{sum + 1, sum - 1, 0, -1, -sum, sum + 1<<32, sum - 1<<32, sum ^ 1<<31, 99999999999, -999999999} {
		s := fmt.Sprintf("data 1 5 5 %d\n%s", n, body)
		l, err := Read(s)
		wantNone(t, s, l, err, -1, api.ErrSum)
	}
	for _, s := range []string{
		"data 0 0 0 1\n", "data 0 0 0 -1\n", "data 0 0 0 4294967295\n", "data 0 0 0 4294967296\n", "data 9 9 9 1\n",
		"data 1 0 0 7\nno row", "data 1 0 0 7\na 0 0", "data 1 0 0 7\n\n", "data 2 0 0 7\nb 0 0\na 0 0\n", "data 41 0 0 7\n" + strings.Repeat("a 0 0\n", 41),
	} {
		l, err := Read(s)
		wantNone(t, s, l, err, -1, api.ErrSum)
	}
}

// P31: the first line that is not right, with its place behind the head.
func TestReadWrongLine(t *testing.T) {
	for _, c := range []struct {
		body string
		at   int
		want error
	}{
		{"a 0 0", 0, api.ErrText},
		{"A 0 0", 0, api.ErrText},
		{"a 0 0\r", 0, api.ErrText},
		{"a 0 0\na 0 0", 1, api.ErrText},
		{"b 0 0\na 0 0", 1, api.ErrText},
		{"a 0 0\n ", 1, api.ErrText},
		{"\n", 0, api.ErrText},
		{"a 0 0\n\n", 1, api.ErrText},
		{"\na 0 0\n", 0, api.ErrText},
		{"a 0\n", 0, api.ErrText},
		{"a 0 0 0\n", 0, api.ErrText},
		{"a 0 0 \n", 0, api.ErrText},
		{"a 0 0\r\n", 0, api.ErrText},
		{"a 00 0\n", 0, api.ErrText},
		{"a 0 -0\n", 0, api.ErrText},
		{"A 0 x\n", 0, api.ErrText},
		{"A 0 0\n", 0, api.ErrName},
		{" 0 0\n", 0, api.ErrName},
		{"a 0 0\nninechars 0 0\n", 1, api.ErrName},
		{"b 0 0\nA 1073741825 0\n", 1, api.ErrName},
		{"a 1073741825 0\n", 0, api.ErrBound},
		{"a 0 0\na 0 -1073741825\n", 1, api.ErrBound},
		{"b 0 0\na 0 1073741825\n", 1, api.ErrBound},
		{"b 0 0\na 0 0\n", 1, api.ErrOrder},
		{"a 1 0\na 0 0\n", 1, api.ErrOrder},
		{"a 0 1\na 0 0\n", 1, api.ErrOrder},
		{"a 10 0\na 2 0\n", 1, api.ErrOrder},
		{"a -1 0\na -2 0\n", 1, api.ErrOrder},
		{"a 0 0\nc 0 0\nb 0 0\nA 0 0\n", 2, api.ErrOrder},
		{"c 0 0\nb 0 0\na 0 0\n", 1, api.ErrOrder},
		{"a 0 0\na 0\nA 0 0\na 0 0", 1, api.ErrText},
	} {
		// The head's numbers do not matter yet.
		for _, s := range []string{fileOf(2, 0, 0, c.body), fileOf(-7, 9, 8, c.body)} {
			l, err := Read(s)
			wantNone(t, s, l, err, c.at, c.want)
		}
	}
}

// P31: too many rows come behind what is wrong with a line, wherever that stands, and ahead of a wrong head.
func TestReadTooManyRows(t *testing.T) {
	many := strings.Repeat("b 0 0\n", 41)
	for _, c := range []struct {
		s    string
		at   int
		want error
	}{
		{fileOf(41, 0, 0, many), -1, api.ErrFull},
		{fileOf(40, 0, 0, many), -1, api.ErrFull},
		{fileOf(0, 5, 6, many), -1, api.ErrFull},
		{fileOf(42, 0, 0, many+"B 0 0\n"), 41, api.ErrName},
		{fileOf(42, 0, 0, many+"a 0 0\n"), 41, api.ErrOrder},
		{fileOf(42, 0, 0, many+"b 0 0"), 41, api.ErrText},
		{fileOf(500, 0, 0, strings.Repeat("b 0 0\n", 500)), -1, api.ErrFull},
	} {
		l, err := Read(c.s)
		wantNone(t, c.s, l, err, c.at, c.want)
	}
	if l, err := Read(fileOf(40, 0, 0, many[6:])); len(l) != 40 || err != nil {
		t.Errorf("%v, %v", l, err)
	}
}

// P31: a head that does not say what is there.
func TestReadWrongShape(t *testing.T) {
	body := "a 4 0\nb -3 0\nc 9 0\nd 0 0\n"
	if l, err := Read(fileOf(4, -3, 9, body)); len(l) != 4 || err != nil {
		t.Errorf("%v, %v", l, err)
	}
	for _, s := range []string{
		fileOf(3, -3, 9, body), fileOf(5, -3, 9, body), fileOf(-4, -3, 9, body), fileOf(0, -3, 9, body), fileOf(99999999999, -3, 9, body),
		fileOf(4, -2, 9, body), fileOf(4, -4, 9, body), fileOf(4, 3, 9, body), fileOf(4, 4, 9, body), fileOf(4, 0, 9, body),
		fileOf(4, -3, 8, body), fileOf(4, -3, 10, body), fileOf(4, -3, 0, body), fileOf(4, -3, -9, body), fileOf(4, 9, -3, body),
		fileOf(1, 0, 0, ""), fileOf(0, 1, 0, ""), fileOf(0, 0, 1, ""), fileOf(0, -1, -1, ""), fileOf(0, big, -big, ""),
		fileOf(1, 0, 5, "a 5 0\n"), fileOf(1, 0, 0, "a 5 0\n"), fileOf(1, -5, 0, "a -5 0\n"), fileOf(1, 0, 0, "a -5 0\n"), fileOf(1, 0, 7, "a 0 7\n"),
	} {
		l, err := Read(s)
		wantNone(t, s, l, err, -1, api.ErrShape)
	}
}

// P31: too long a text comes first; one of MaxText bytes is looked into.
func TestReadTooLong(t *testing.T) {
	for _, c := range []struct {
		s    string
		want error
	}{
		{strings.Repeat("x", api.MaxText), api.ErrText},
		{strings.Repeat("x", api.MaxText+1), api.ErrBound},
		{"data 0 0 0 7\n" + strings.Repeat("x", api.MaxText-13), api.ErrSum},
		{"data 0 0 0 7\n" + strings.Repeat("x", api.MaxText-12), api.ErrBound},
		{fileOfSize(t, api.MaxText), api.ErrFull},
		{fileOfSize(t, api.MaxText+1), api.ErrBound},
		{strings.Repeat("\n", 1<<20), api.ErrBound},
	} {
		l, err := Read(c.s)
		wantNone(t, c.s, l, err, -1, c.want)
	}
}

// fileOfSize has that many bytes, and nothing wrong but how many rows it has.
func fileOfSize(t *testing.T, size int) string {
	t.Helper()
	for long := range 7 {
		for short := size/6 - 20; short <= size/6; short++ {
			body := strings.Repeat("a 0 0\n", short) + strings.Repeat("aa 0 0\n", long)
			if s := fileOf(short+long, 0, 0, body); len(s) == size {
				return s
			}
		}
	}
	t.Fatalf("no file of %d bytes", size)
	return ""
}

// P32: rows are read as they were written, sorted, in whatever order they were given.
func TestReadAsWritten(t *testing.T) {
	rnd := rand.New(rand.NewSource(32))
	for range 500 {
		l := someRows(rnd)
		s, err := Make(l)
		if err != nil {
			t.Fatal(l, err)
		}
		got, err := Read(s)
		if err != nil || !slices.Equal(got, row.Sort(l)) {
			t.Fatalf("%v became %v, %v", l, got, err)
		}
		rnd.Shuffle(len(l), func(i, j int) { l[i], l[j] = l[j], l[i] })
		if again, err := Make(l); again != s || err != nil {
			t.Fatalf("%v in another order: %q, %v, not %q", l, again, err, s)
		}
	}
}

// P32: with one byte another one, whichever it is, and in whatever place, it is none.
func TestOneByteAnotherOne(t *testing.T) {
	rnd := rand.New(rand.NewSource(33))
	lists := [][]api.Row{nil, {rowOf("a", 0, 0)}, {rowOf("eu", 5, 0)}, {rowOf("a", 1, 1), rowOf("a", 1, 1), rowOf("b", -10, 1)}}
	for range 3 {
		lists = append(lists, someRows(rnd))
	}
	for _, l := range lists {
		s, err := Make(l)
		if err != nil {
			t.Fatal(l, err)
		}
		checkBytes(t, s)
	}
}

func checkBytes(t *testing.T, s string) {
	t.Helper()
	text := []byte(s)
	for at, was := range text {
		for b := range 256 {
			if byte(b) == was {
				continue
			}
			text[at] = byte(b)
			if l, err := Read(string(text)); len(l) > 0 || err == nil {
				t.Errorf("%q, with %q at %d: %v, %v", s, byte(b), at, l, err)
			}
		}
		text[at] = was
	}
}

// A file that is cut short, or longer, is none either.
func TestCutFiles(t *testing.T) {
	s, err := Make([]api.Row{rowOf("a", 1, 1), rowOf("b", 2, 2)})
	if err != nil {
		t.Fatal(err)
	}
	for at := range len(s) {
		if l, err := Read(s[:at]); len(l) > 0 || err == nil {
			t.Errorf("%q: %v, %v", s[:at], l, err)
		}
	}
	for _, more := range []string{"\n", " ", "\x00", "b 2 2\n", s} {
		if l, err := Read(s + more); len(l) > 0 || err != api.ErrSum {
			t.Errorf("with %q behind: %v, %v", more, l, err)
		}
	}
}

// P3, P4: a list is only lent, up to its length; what is answered is new memory.
func TestMemory(t *testing.T) {
	whole := []api.Row{rowOf("c", 3, 3), rowOf("b", 2, 2), rowOf("a", 1, 1), rowOf("BEHIND", big+1, 0)}
	was := slices.Clone(whole)
	s, err := Make(whole[:3])
	if s != fileOf(3, 1, 3, "a 1 1\nb 2 2\nc 3 3\n") || err != nil || !slices.Equal(whole, was) {
		t.Fatalf("%q, %v; %v became %v", s, err, was, whole)
	}
	l, _ := Read(s)
	for i := range l {
		l[i] = api.Row{}
	}
	if again, err := Read(s); err != nil || !slices.Equal(again, row.Sort(was[:3])) {
		t.Errorf("what is written into an answer shows: %v, %v", again, err)
	}
}

// P1, P3: whatever the text: rows that make it again, or an error of those that are named, and no rows.
func FuzzRead(f *testing.F) {
	for _, s := range []string{"", "data 0 0 0 0\n", "data 0 0 0 0", "data 1 0 0 1\na 0 0\n", fileOf(1, 5, 5, "eu 5 0\n"), fileOf(1, 0, 5, "eu 5 0\n"), fileOf(2, 0, 0, "b 0 0\na 0 0\n")} {
		f.Add(s, false)
		f.Add(s, true)
	}
	f.Fuzz(func(t *testing.T, s string, summed bool) {
		if summed {
			s = fileOf(strings.Count(s, "\n"), 0, 0, s)
		}
		l, err := Read(s)
		if err != nil {
			checkReadError(t, s, l, err)
			return
		}
		if again, err := Make(l); again != s || err != nil {
			t.Errorf("Read(%q): %v, which makes %q, %v", s, l, again, err)
		}
	})
}

func checkReadError(t *testing.T, s string, l []api.Row, err error) {
	t.Helper()
	var f *api.Fault
	named := []error{api.ErrBound, api.ErrText, api.ErrSum, api.ErrFull, api.ErrShape}
	if errors.As(err, &f) {
		named = []error{api.ErrText, api.ErrName, api.ErrBound, api.ErrOrder}
		err = f.Err
	}
	if len(l) > 0 || !slices.Contains(named, err) {
		t.Errorf("Read(%q): %v, %v", s, l, err)
	}
}
