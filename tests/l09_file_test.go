package tests

import (
	"math"
	"math/bits"
	"math/rand/v2"
	"slices"
	"strings"
	"testing"

	"loop.example/g00360/impl"
)

// Promise 9: ReadFile of FileText of right series, one at least, is them; FileFind finds each. A file in which one byte is another one is not read.

// seriesOf has one Series a key, all with these points.
func seriesOf(points []impl.Point, keys ...string) []impl.Series {
	var l []impl.Series
	for _, key := range keys {
		l = append(l, impl.Series{Key: key, Points: slices.Clone(points)})
	}
	return l
}

func oneSeries(key string, numbers ...int) impl.Series {
	return impl.Series{Key: key, Points: pointsAt(numbers...)}
}

func sameSeries(a, b []impl.Series) bool {
	return slices.EqualFunc(a, b, func(x, y impl.Series) bool { return x.Key == y.Key && slices.Equal(x.Points, y.Points) })
}

func copySeries(l []impl.Series) []impl.Series {
	var other []impl.Series
	for _, s := range l {
		other = append(other, impl.Series{Key: s.Key, Points: slices.Clone(s.Points)})
	}
	return other
}

func slowKey(s string) bool {
	return within(len(s), 1, 8) && strings.Trim(s, "abcdefghijklmnopqrstuvwxyz") == ""
}

func slowSeriesOk(l []impl.Series) bool {
	for i, s := range l {
		if !slowKey(s.Key) || len(s.Points) == 0 || !slowPointsOk(s.Points) || i > 0 && strings.Compare(l[i-1].Key, s.Key) >= 0 {
			return false
		}
	}
	return len(l) <= 5
}

// A rawSpot is what an index tells of a key, right or not.
type rawSpot struct {
	key                   string
	at, size, first, last int
}

func (s rawSpot) text() string {
	return slowVar(len(s.key)) + s.key + vars(s.at, s.size, s.first, s.last)
}

// A rawFile is what a file is put together of, right or not. The texts between stand behind the start, behind each block, behind the last spot, and between the place of the index and the sum.
type rawFile struct {
	start   string
	blocks  []string
	spots   []rawSpot
	begin   int
	between [4]string
}

// rawFileOf is of Series of one point at least each.
func rawFileOf(l []impl.Series) rawFile {
	f := rawFile{start: "tsb1", begin: 4}
	for _, s := range l {
		block := rawBlock(len(s.Points), s.Points)
		f.blocks = append(f.blocks, block)
		f.spots = append(f.spots, rawSpot{s.Key, f.begin, len(block), s.Points[0].T, s.Points[len(s.Points)-1].T})
		f.begin += len(block)
	}
	return f
}

func (f rawFile) text() string {
	s := f.start + f.between[0]
	for _, block := range f.blocks {
		s += block + f.between[1]
	}
	for _, spot := range f.spots {
		s += spot.text()
	}
	return summed(s + f.between[2] + fourBytes(f.begin) + f.between[3])
}

// summed is the text with the sum of all of it behind.
func summed(s string) string {
	return s + fourBytes(slowCrc(s))
}

func slowFileText(l []impl.Series) string {
	if len(l) == 0 || !slowSeriesOk(l) {
		return ""
	}
	return rawFileOf(l).text()
}

// slowReadFile goes through the text from its first byte on: block by block, then along the index, and holds the one against the other.
func slowReadFile(text string) ([]impl.Series, bool) {
	end := len(text) - 8
	if end < 4 || text[:4] != "tsb1" || summed(text[:end+4]) != text {
		return nil, false
	}
	begin := slowNumber(text[end : end+4])
	if !within(begin, 4, end) {
		return nil, false
	}
	index := text[begin:end]
	var l []impl.Series
	at := 4
	for at < begin {
		if begin-at < 8 {
			return nil, false
		}
		size := 8 + slowNumber(text[at:at+4])
		if size > begin-at {
			return nil, false
		}
		points, ok := slowReadBlock(text[at : at+size])
		many, used := slowVarAt(index)
		if !ok || used == 0 || many > len(index)-used {
			return nil, false
		}
		spot := rawSpot{index[used : used+many], at, size, points[0].T, points[len(points)-1].T}
		rest, found := strings.CutPrefix(index, spot.text())
		if !found {
			return nil, false
		}
		l = append(l, impl.Series{Key: spot.key, Points: points})
		index, at = rest, at+size
	}
	if len(l) == 0 || index != "" || !slowSeriesOk(l) {
		return nil, false
	}
	return l, true
}

func slowFileFind(text, key string) ([]impl.Point, bool) {
	l, _ := slowReadFile(text)
	for _, s := range l {
		if s.Key == key {
			return s.Points, true
		}
	}
	return nil, false
}

// slowFileSpan looks at each point.
func slowFileSpan(text string) (int, int, bool) {
	l, ok := slowReadFile(text)
	if !ok {
		return 0, 0, false
	}
	least, greatest := math.MaxInt, math.MinInt
	for _, s := range l {
		for _, p := range s.Points {
			least, greatest = min(least, p.T), max(greatest, p.T)
		}
	}
	return least, greatest, true
}

// rightKeys are keys of each length, at the edges of their bytes; they rise.
func rightKeys() []string {
	return []string{"a", "aa", "aaaaaaaa", "abcdefgh", "b", "cpu", "m", "mem", "memo", "z", "za", "zzzzzzz", "zzzzzzzz"}
}

// wrongKeys are no keys: of no byte, too long, or with a byte beside a to z at the first, a middle or the last place.
func wrongKeys() []string {
	l := []string{"", "aaaaaaaaa", "abcdefghi", "zzzzzzzzz", strings.Repeat("a", 127), strings.Repeat("a", 128), strings.Repeat("k", 300), "\u00e9", "caf\u00e9"}
	for _, b := range []byte("\x00\x01\x1f -.09@AZ[_`{|~\x7f\x80\xe1\xfa\xff") {
		c := string([]byte{b})
		l = append(l, c, c+"b", "b"+c, "b"+c+"b", c+"bcdefgh", "bcd"+c+"fgh", "bcdefgh"+c)
	}
	return l
}

// rightSeries are right, one at least: of each number of keys, with many kinds of points.
func rightSeries() [][]impl.Series {
	l := [][]impl.Series{
		{oneSeries("a", 0, 0)},
		{oneSeries("abcdefgh", farTime, -farTime)},
		{oneSeries("cpu", 10, 1, 30, 2), oneSeries("mem", 5, 3)},
		{oneSeries("a", 7, -1), oneSeries("aa", 300, 1)},
		{oneSeries("a", 100, 1), oneSeries("b", 3, 2, 4, 2), oneSeries("m", 90, 3), oneSeries("y", 5000, -4), oneSeries("zzzzzzzz", 6, 0, 7, 0, 9, 0)},
		{oneSeries("b", 20, 0), oneSeries("c", 10, 0, 90, 0), oneSeries("d", 30, 0)},
		seriesOf(pointsAt(5, 5), "a", "aa", "aaa", "aaaa", "aaaaa"),
		seriesOf(pointsEvery(0, 1, 60, 0), "long"),
		seriesOf(pointsEvery(farTime-59, 1, 60, farTime), "x", "xx", "y", "yy", "zzzzzzzz"),
	}
	points := rightPoints()
	keys := rightKeys()
	for i := range points {
		var row []impl.Series
		for j := range 1 + i%5 {
			row = append(row, impl.Series{Key: keys[(i%3)+2*j], Points: points[(i+7*j)%len(points)]})
		}
		l = append(l, row)
	}
	return l
}

// shortSeries are those of rightSeries whose files are short, so that each byte of them can be tried.
func shortSeries() [][]impl.Series {
	return slices.DeleteFunc(rightSeries(), func(l []impl.Series) bool { return len(slowFileText(l)) > 130 })
}

// wrongSeries are not right, each by a fault at the first, a middle or the last place.
func wrongSeries() map[string][]impl.Series {
	one := pointsAt(5, 1)
	l := map[string][]impl.Series{
		"six":                     seriesOf(one, "a", "b", "c", "d", "e", "f"),
		"seven":                   seriesOf(one, "a", "b", "c", "d", "e", "f", "g"),
		"far more":                seriesOf(one, textsOf("abcdefgh", 4)[1:]...),
		"keys that stay":          seriesOf(one, "a", "a"),
		"one Series five times":   seriesOf(one, "a", "a", "a", "a", "a"),
		"keys that fall":          seriesOf(one, "b", "a"),
		"the beginning behind":    seriesOf(one, "ab", "a"),
		"a longer one behind":     seriesOf(one, "b", "aa"),
		"the last key stays":      seriesOf(one, "a", "b", "c", "d", "d"),
		"the last key falls":      seriesOf(one, "a", "b", "c", "e", "d"),
		"the last key as a first": seriesOf(one, "a", "b", "c", "d", "a"),
		"a middle key stays":      seriesOf(one, "a", "b", "b", "c"),
		"a middle key falls":      seriesOf(one, "b", "a", "c"),
		"the zero Series":         {{}},
	}
	for name, points := range map[string][]impl.Point{"nil": nil, "no points": {}} {
		l["alone, "+name] = []impl.Series{{Key: "a", Points: points}}
		l["the first of two, "+name] = []impl.Series{{Key: "a", Points: points}, {Key: "b", Points: one}}
		l["the last of two, "+name] = []impl.Series{{Key: "a", Points: one}, {Key: "b", Points: points}}
		l["a middle one, "+name] = []impl.Series{{Key: "a", Points: one}, {Key: "b", Points: points}, {Key: "c", Points: one}}
	}
	for i, points := range wrongPoints() {
		name := "points that are not right " + impl.Dec(i)
		l[name] = []impl.Series{{Key: "a", Points: points}}
		l[name+", first"] = []impl.Series{{Key: "a", Points: points}, {Key: "b", Points: one}}
		l[name+", last"] = []impl.Series{{Key: "a", Points: one}, {Key: "b", Points: points}}
	}
	for _, key := range wrongKeys() {
		l["key "+impl.Hex(key)] = seriesOf(one, key)
		row := seriesOf(one, "a", key, "zz")
		slices.SortFunc(row, func(x, y impl.Series) int { return strings.Compare(x.Key, y.Key) })
		l["key "+impl.Hex(key)+" among others"] = row
	}
	return l
}

func TestFileConstants(t *testing.T) {
	if impl.MaxKey != 8 || impl.MaxSeries != 5 {
		t.Errorf("MaxKey %d, MaxSeries %d", impl.MaxKey, impl.MaxSeries)
	}
}

func TestSeriesOkEdges(t *testing.T) {
	one := pointsAt(5, 1)
	for _, c := range []struct {
		name string
		l    []impl.Series
		want bool
	}{
		{"nil", nil, true},
		{"no Series", []impl.Series{}, true},
		{"one", seriesOf(one, "a"), true},
		{"four", seriesOf(one, "a", "b", "c", "d"), true},
		{"MaxSeries", seriesOf(one, "a", "b", "c", "d", "e"), true},
		{"one more", seriesOf(one, "a", "b", "c", "d", "e", "f"), false},
		{"a key of no byte", seriesOf(one, ""), false},
		{"a key of one byte", seriesOf(one, "k"), true},
		{"a key of MaxKey - 1 bytes", seriesOf(one, "keykeyk"), true},
		{"a key of MaxKey bytes", seriesOf(one, "keykeyke"), true},
		{"a key of one more", seriesOf(one, "keykeykey"), false},
		{"the first letter", seriesOf(one, "aaaaaaaa"), true},
		{"the last letter", seriesOf(one, "zzzzzzzz"), true},
		{"the byte ahead of a", seriesOf(one, "`"), false},
		{"the byte behind z", seriesOf(one, "{"), false},
		{"capitals", seriesOf(one, "CPU"), false},
		{"keys that rise", seriesOf(one, "a", "b"), true},
		{"keys that rise at the last byte", seriesOf(one, "aaaaaaaa", "aaaaaaab"), true},
		{"a beginning ahead", seriesOf(one, "a", "aa"), true},
		{"a beginning behind", seriesOf(one, "aa", "a"), false},
		{"a longer one that is less", seriesOf(one, "aaaaaaaa", "b"), true},
		{"a longer one that is less, behind", seriesOf(one, "b", "aaaaaaaa"), false},
		{"keys that stay", seriesOf(one, "a", "a"), false},
		{"keys that fall", seriesOf(one, "b", "a"), false},
		{"no points", []impl.Series{{Key: "a"}}, false},
		{"a point", []impl.Series{oneSeries("a", 0, 0)}, true},
		{"MaxPoints", seriesOf(pointsEvery(0, 1, 60, 0), "a"), true},
		{"one point more", seriesOf(pointsEvery(0, 1, 61, 0), "a"), false},
		{"times that stay", []impl.Series{oneSeries("a", 5, 1, 5, 1)}, false},
		{"times that fall from key to key", []impl.Series{oneSeries("a", 9, 1), oneSeries("b", 3, 1)}, true},
		{"the same points", seriesOf(pointsAt(1, 1, 2, 2), "a", "b"), true},
	} {
		if ok := impl.SeriesOk(c.l); ok != c.want || slowSeriesOk(c.l) != c.want {
			t.Errorf("%s: SeriesOk = %v, the words say %v, want %v", c.name, ok, slowSeriesOk(c.l), c.want)
		}
	}
}

// Each byte, at each place of keys of each length.
func TestSeriesOkEachByte(t *testing.T) {
	for size := 1; size <= 8; size++ {
		for at := range size {
			for b := range 256 {
				key := withByte("mmmmmmmm"[:size], at, byte(b))
				want := within(b, 'a', 'z')
				if ok := impl.SeriesOk(seriesOf(pointsAt(1, 2), key)); ok != want {
					t.Fatalf("SeriesOk with key %q = %v", key, ok)
				}
			}
		}
	}
}

func TestSeriesThatAreNotRight(t *testing.T) {
	for name, l := range wrongSeries() {
		if ok, s := impl.SeriesOk(l), impl.FileText(l); ok || s != "" || slowSeriesOk(l) {
			t.Errorf("%s: SeriesOk %v, FileText %s, the words say %v", name, ok, brief(s), slowSeriesOk(l))
		}
	}
	for _, l := range [][]impl.Series{nil, {}} {
		if s := impl.FileText(l); s != "" {
			t.Errorf("FileText of no Series is %q", s)
		}
	}
}

// Every two and every three of short texts as keys.
func TestSeriesOkOfAllShortKeys(t *testing.T) {
	keys := textsOf("`az{", 2)
	right := 0
	for _, a := range keys {
		for _, b := range keys {
			for _, c := range keys {
				l := seriesOf(pointsAt(3, 4), a, b, c)
				want := slowSeriesOk(l)
				if ok := impl.SeriesOk(l); ok != want || impl.SeriesOk(l[:2]) != slowSeriesOk(l[:2]) {
					t.Fatalf("SeriesOk with keys %q, %q, %q = %v, of the first two %v", a, b, c, ok, impl.SeriesOk(l[:2]))
				}
				if want {
					right++
				}
			}
		}
	}
	// Six texts are keys: twenty rows of three of them rise.
	if right != 20 {
		t.Errorf("%d are right", right)
	}
}

// wantFile tells where a text is read otherwise than wanted: as a whole, by each key that is there and some that are not, and by its span.
func wantFile(t *testing.T, name, text string, want []impl.Series, ok bool) {
	t.Helper()
	if l, got := impl.ReadFile(text); !sameSeries(l, want) || got != ok {
		t.Fatalf("%s: ReadFile(%s) = %s, %v, want %s, %v", name, brief(text), brief(l), got, brief(want), ok)
	}
	keys := []string{"", "a", "b", "cpu", "mem", "z"}
	for _, s := range want {
		keys = append(keys, s.Key, s.Key+"a", s.Key[:len(s.Key)-1])
	}
	for _, key := range keys {
		wantFind(t, name, text, key, want)
	}
	least, greatest := spanOf(want)
	if from, to, got := impl.FileSpan(text); from != least || to != greatest || got != ok {
		t.Fatalf("%s: FileSpan(%s) = %d, %d, %v, want %d, %d, %v", name, brief(text), from, to, got, least, greatest, ok)
	}
}

func wantFind(t *testing.T, name, text, key string, l []impl.Series) {
	t.Helper()
	at := slices.IndexFunc(l, func(s impl.Series) bool { return s.Key == key })
	var want []impl.Point
	if at >= 0 {
		want = l[at].Points
	}
	if points, ok := impl.FileFind(text, key); !slices.Equal(points, want) || ok != (at >= 0) {
		t.Fatalf("%s: FileFind(%s, %q) = %s, %v, want %s, %v", name, brief(text), key, brief(points), ok, brief(want), at >= 0)
	}
}

// spanOf is 0 and 0 of no Series.
func spanOf(l []impl.Series) (int, int) {
	var times []int
	for _, s := range l {
		more, _ := timesAndValues(s.Points)
		times = append(times, more...)
	}
	if len(times) == 0 {
		return 0, 0
	}
	return slices.Min(times), slices.Max(times)
}

func wantNoFile(t *testing.T, name, text string) {
	t.Helper()
	wantFile(t, name, text, nil, false)
}

// wantNoFileWith asks also for the keys that the text was made of.
func wantNoFileWith(t *testing.T, name, text string, l []impl.Series) {
	t.Helper()
	wantNoFile(t, name, text)
	for _, s := range l {
		wantFind(t, name, text, s.Key, nil)
	}
}

// wantFileWords tells where a text is read otherwise than the words say; it answers whether it is read.
func wantFileWords(t *testing.T, text string) bool {
	t.Helper()
	want, ok := slowReadFile(text)
	wantFile(t, "the words", text, want, ok)
	if ok && slowFileText(want) != text {
		t.Fatalf("the words read %s as %s, and write it otherwise", brief(text), brief(want))
	}
	return ok
}

// Texts are written out by hand.
func TestFileBytes(t *testing.T) {
	long := pointsEvery(0, 1, 60, 0)
	for _, c := range []struct {
		l    []impl.Series
		want string
	}{
		{[]impl.Series{oneSeries("a", 0, 0)},
			"tsb1" + "\x00\x00\x00\x03\x7c\x5d\x71\x2a\x01\x00\x00" + "\x01a\x04\x0b\x00\x00" + "\x00\x00\x00\x0f\x95\xe2\x4e\x6d"},
		{[]impl.Series{oneSeries("z", 0, 5, 1, 4, 3, 3)},
			"tsb1" + "\x00\x00\x00\x07\xf9\x0c\xfd\x35\x03\x00\x01\x02\x0a\x01\x01" + "\x01z\x04\x0f\x00\x03" + "\x00\x00\x00\x13\xdf\x51\xa0\x19"},
		{[]impl.Series{oneSeries("abcdefgh", 1099511627776, -1099511627776)},
			"tsb1" + "\x00\x00\x00\x0d\xde\xd3\xc5\xb6\x01\x80\x80\x80\x80\x80\x20\xff\xff\xff\xff\xff\x3f" +
				"\x08abcdefgh\x04\x15\x80\x80\x80\x80\x80\x20\x80\x80\x80\x80\x80\x20" + "\x00\x00\x00\x19\x28\x82\x68\xae"},
		{[]impl.Series{oneSeries("cpu", 10, 1, 30, 2), oneSeries("mem", 5, 3)},
			"tsb1" + "\x00\x00\x00\x05\xf7\x23\x32\x7b\x02\x0a\x14\x02\x02" + "\x00\x00\x00\x03\x07\xd4\x6f\x69\x01\x05\x06" +
				"\x03cpu\x04\x0d\x0a\x1e" + "\x03mem\x11\x0b\x05\x05" + "\x00\x00\x00\x1c\xd1\xa0\x99\xab"},
		{[]impl.Series{oneSeries("a", 7, -1), oneSeries("aa", 300, 1)},
			"tsb1" + "\x00\x00\x00\x03\xf4\x5b\x3b\x6c\x01\x07\x01" + "\x00\x00\x00\x04\xbb\xba\xf0\x13\x01\xac\x02\x02" +
				"\x01a\x04\x0b\x07\x07" + "\x02aa\x0f\x0c\xac\x02\xac\x02" + "\x00\x00\x00\x1b\x00\xdc\x7f\xa5"},
		{[]impl.Series{{Key: "long", Points: long}, oneSeries("tail", 1, 1)},
			"tsb1" + "\x00\x00\x00\x79\x5f\xf9\xc2\xc2\x3c\x00\x01" + strings.Repeat("\x00", 118) + "\x00\x00\x00\x03\x8e\xc4\x99\xaa\x01\x01\x02" +
				"\x04long\x04\x81\x01\x00\x3b" + "\x04tail\x85\x01\x0b\x01\x01" + "\x00\x00\x00\x90\xee\xf9\x4d\x7d"},
		{[]impl.Series{oneSeries("a", 100, 1), oneSeries("b", 3, 2, 4, 2), oneSeries("m", 90, 3), oneSeries("y", 5000, -4), oneSeries("zzzzzzzz", 6, 0, 7, 0, 9, 0)},
			"tsb1" + "\x00\x00\x00\x03\x53\x70\x45\x07\x01\x64\x02" + "\x00\x00\x00\x05\x1f\xeb\x91\x0e\x02\x03\x01\x04\x00" + "\x00\x00\x00\x03\x20\x7f\x52\x11\x01\x5a\x06" +
				"\x00\x00\x00\x04\xd3\x72\xa1\xa8\x01\x88\x27\x07" + "\x00\x00\x00\x07\x06\x82\x1d\x3d\x03\x06\x01\x02\x00\x00\x00" +
				"\x01a\x04\x0b\x64\x64" + "\x01b\x0f\x0d\x03\x04" + "\x01m\x1c\x0b\x5a\x5a" + "\x01y\x27\x0c\x88\x27\x88\x27" + "\x08zzzzzzzz\x33\x0f\x06\x09" + "\x00\x00\x00\x42\x3a\xcf\x2f\x58"},
	} {
		if s := impl.FileText(c.l); s != c.want || slowFileText(c.l) != c.want {
			t.Errorf("FileText(%v) = %q, the words say %q, want %q", c.l, s, slowFileText(c.l), c.want)
		}
		wantFile(t, "by hand", c.want, c.l, true)
	}
}

func TestFilesReadBack(t *testing.T) {
	for _, l := range rightSeries() {
		if !impl.SeriesOk(l) || !slowSeriesOk(l) {
			t.Fatalf("SeriesOk(%s) = %v", brief(l), impl.SeriesOk(l))
		}
		s := impl.FileText(l)
		if s != slowFileText(l) {
			t.Fatalf("FileText(%s) = %s, want %s", brief(l), brief(s), brief(slowFileText(l)))
		}
		wantFile(t, "read back", s, l, true)
		if !wantFileWords(t, s) {
			t.Fatalf("the words do not read %s", brief(s))
		}
	}
}

// The longest file that there may be: each Var of it as long as it can get.
func TestLongestFile(t *testing.T) {
	times := []int{farTime - 118}
	for i := range 59 {
		times = append(times, times[i]+2)
	}
	toAndFro := withValues(times, []int{farTime, -farTime})
	l := seriesOf(toAndFro, "zzzzzzzv", "zzzzzzzw", "zzzzzzzx", "zzzzzzzy", "zzzzzzzz")
	wantFile(t, "to and fro", impl.FileText(l), l, true)
	if s := impl.FileText(l); s != slowFileText(l) || len(s) < 2000 {
		t.Errorf("FileText has %d bytes, want %d", len(s), len(slowFileText(l)))
	}
}

func TestFilesWithBytesBehindOrAhead(t *testing.T) {
	for _, l := range shortSeries() {
		s := impl.FileText(l)
		for b := range 256 {
			c := string([]byte{byte(b)})
			wantNoFile(t, "a byte behind", s+c)
			wantNoFile(t, "a byte ahead", c+s)
			wantNoFile(t, "a byte behind, with its sum", summed(s+c))
			wantNoFile(t, "a byte ahead, with its sum", summed(c+s[:len(s)-4]))
		}
		wantNoFileWith(t, "twice", s+s, l)
		wantNoFileWith(t, "with a sum of all", summed(s), l)
		wantNoFileWith(t, "in a frame", slowFrame(s), l)
	}
}

func TestFilesCutOff(t *testing.T) {
	for _, l := range rightSeries() {
		s := impl.FileText(l)
		for at := range len(s) {
			if _, ok := impl.ReadFile(s[:at]); ok {
				t.Fatalf("ReadFile(%s), cut off at %d, is taken", brief(s), at)
			}
			if len(s) > 130 {
				continue
			}
			wantNoFileWith(t, "cut off", s[:at], l)
			if at != len(s)-4 {
				wantNoFileWith(t, "cut off, with a new sum", summed(s[:at]), l)
			}
			wantNoFileWith(t, "without its beginning", s[at+1:], l)
			wantNoFileWith(t, "without its beginning, with a new sum", summed(s[at+1:max(at+1, len(s)-4)]), l)
			wantNoFileWith(t, "without a byte", s[:at]+s[at+1:], l)
		}
	}
	for _, s := range textsOf("\x00t\x04", 4) {
		wantNoFile(t, "few bytes", s)
		wantNoFile(t, "few bytes with a sum", summed(s))
		wantNoFile(t, "few bytes behind the start", summed("tsb1"+s))
	}
}

func TestFilesWithAByteTurned(t *testing.T) {
	for _, l := range rightSeries() {
		s := impl.FileText(l)
		for at := range len(s) {
			for b := range 256 {
				// Of long texts each bit alone is turned, of very long ones one in each byte.
				one := bits.OnesCount8(s[at]^byte(b)) == 1
				if s[at] == byte(b) || len(s) > 60 && !one || len(s) > 500 && s[at]^byte(b) != 1<<(at%8) {
					continue
				}
				text := withByte(s, at, byte(b))
				if got, ok := impl.ReadFile(text); ok || len(got) != 0 {
					t.Fatalf("ReadFile(%s), byte %d turned, = %s, %v", brief(text), at, brief(got), ok)
				}
				if one && (len(s) <= 60 || b%5 == 0) {
					wantNoFileWith(t, "turned", text, l)
				}
			}
		}
	}
}

// A byte is turned, left out or put in, and the sum made anew: what is read then is other series, or none.
func TestFilesTurnedWithANewSum(t *testing.T) {
	read, not := 0, 0
	for _, l := range shortSeries() {
		s := impl.FileText(l)
		body := s[:len(s)-4]
		for at := range len(body) {
			for b := range 256 {
				if body[at] == byte(b) || len(body) > 40 && bits.OnesCount8(body[at]^byte(b)) > 1 {
					continue
				}
				text := summed(withByte(body, at, byte(b)))
				if wantFileWords(t, text) {
					read++
				} else {
					not++
				}
				if got, _ := impl.ReadFile(text); sameSeries(got, l) {
					t.Fatalf("ReadFile(%s) = %s, as without the turned byte", brief(text), brief(got))
				}
			}
			wantNoFileWith(t, "a byte left out", summed(body[:at]+body[at+1:]), l)
			for _, b := range []byte("\x00\x01\x04\x0ba\x80\xff") {
				wantNoFileWith(t, "a byte put in", summed(body[:at]+string([]byte{b})+body[at:]), l)
			}
		}
	}
	// Of a key another letter may be right.
	if read < 100 || not < 1000 {
		t.Errorf("%d were read, %d not", read, not)
	}
}

// turnedFiles are files whose sum is right, each with one thing that is wrong.
func turnedFiles(l []impl.Series) map[string]string {
	turned := map[string]string{}
	add := func(name string, change func(f *rawFile)) {
		f := rawFileOf(l)
		change(&f)
		turned[name] = f.text()
	}
	for _, start := range []string{"", "tsb", "tsb0", "tsb2", "TSB1", "tsb1 ", " tsb1", "1bst", "\x00\x00\x00\x00", "tsb1tsb1"} {
		add("start "+start, func(f *rawFile) { f.start = start })
		add("start "+start+", places moved", func(f *rawFile) {
			f.start = start
			f.move(0, len(start)-4)
		})
	}
	for _, by := range []int{-30, -4, -1, 1, 2, 4, 11, 128, 1 << 20, 1 << 31} {
		add("the index "+impl.Dec(by)+" beside", func(f *rawFile) { f.begin = max(f.begin+by, 0) })
		for i := range l {
			here := impl.Dec(i) + " by " + impl.Dec(by)
			add("place "+here, func(f *rawFile) { f.spots[i].at = max(f.spots[i].at+by, 0) })
			add("length "+here, func(f *rawFile) { f.spots[i].size = max(f.spots[i].size+by, 0) })
			add("first "+here, func(f *rawFile) { f.spots[i].first = changedBy(f.spots[i].first, by) })
			add("last "+here, func(f *rawFile) { f.spots[i].last = changedBy(f.spots[i].last, by) })
		}
	}
	for i := range l {
		add("the greatest place "+impl.Dec(i), func(f *rawFile) { f.spots[i].at = impl.MaxVar })
		add("the greatest length "+impl.Dec(i), func(f *rawFile) { f.spots[i].size = impl.MaxVar })
		add("the rest as length "+impl.Dec(i), func(f *rawFile) { f.spots[i].size = len(f.text()) - f.spots[i].at })
		add("no length "+impl.Dec(i), func(f *rawFile) { f.spots[i].size = 0 })
		add("place 0 "+impl.Dec(i), func(f *rawFile) { f.spots[i].at = 0 })
		add("a spot lacks "+impl.Dec(i), func(f *rawFile) { f.spots = slices.Delete(f.spots, i, i+1) })
		add("a spot twice "+impl.Dec(i), func(f *rawFile) { f.spots = slices.Insert(f.spots, i, f.spots[i]) })
		add("a block lacks "+impl.Dec(i), func(f *rawFile) { f.blocks = slices.Delete(f.blocks, i, i+1) })
		add("a block lacks, places moved "+impl.Dec(i), func(f *rawFile) {
			f.move(i+1, -len(f.blocks[i]))
			f.blocks = slices.Delete(f.blocks, i, i+1)
		})
		add("a block with another sum "+impl.Dec(i), func(f *rawFile) { f.blocks[i] = withByte(f.blocks[i], 4, f.blocks[i][4]+1) })
		add("a block of no points "+impl.Dec(i), func(f *rawFile) {
			f.move(i+1, 9-len(f.blocks[i]))
			f.blocks[i], f.spots[i].size = slowFrame("\x00"), 9
		})
	}
	for _, between := range []string{"\x00", "\x01", "a", "\x80", "\xff", "\x00\x00\x00\x00", "tsb1"} {
		many := len(between)
		name := impl.Hex(between)
		add(name+" behind the start", func(f *rawFile) { f.between[0] = between })
		add(name+" behind the start, places moved", func(f *rawFile) {
			f.between[0] = between
			f.move(0, many)
		})
		add(name+" behind blocks", func(f *rawFile) { f.between[1] = between })
		add(name+" behind blocks, places moved", func(f *rawFile) {
			f.between[1] = between
			for i := range f.spots {
				f.move(i+1, many)
			}
		})
		add(name+" ahead of the index", func(f *rawFile) {
			f.blocks[len(f.blocks)-1] += between
			f.begin += many
		})
		add(name+" in the last block", func(f *rawFile) {
			f.blocks[len(f.blocks)-1] += between
			f.spots[len(f.spots)-1].size += many
			f.begin += many
		})
		add(name+" behind the index", func(f *rawFile) { f.between[2] = between })
		add(name+" behind the index's place", func(f *rawFile) { f.between[3] = between })
	}
	return turned
}

// move puts each spot from that one on, and the index, by some bytes further on.
func (f *rawFile) move(from, by int) {
	for i := from; i < len(f.spots); i++ {
		f.spots[i].at = max(f.spots[i].at+by, 0)
	}
	f.begin = max(f.begin+by, 0)
}

// changedBy is another number that is not below 0.
func changedBy(n, by int) int {
	if n+by < 0 {
		return n - by
	}
	return n + by
}

func TestFilesWithAWrongPart(t *testing.T) {
	for _, l := range shortSeries() {
		right := impl.FileText(l)
		if rawFileOf(l).text() != right {
			t.Fatalf("put together to %s, want %s", brief(rawFileOf(l).text()), brief(right))
		}
		for name, text := range turnedFiles(l) {
			wantNoFileWith(t, name, text, l)
			if _, ok := slowReadFile(text); ok {
				t.Fatalf("%s: the words read %s", name, brief(text))
			}
		}
	}
}

func TestIndexThatBeginsElsewhere(t *testing.T) {
	for _, l := range shortSeries() {
		f := rawFileOf(l)
		begin, many := f.begin, len(f.text())
		places := []int{1 << 16, 1 << 24, 1<<31 - 1, 1 << 31, 1<<32 - 1}
		for at := range many + 4 {
			places = append(places, at, at<<8, at<<24)
		}
		for _, at := range places {
			if f.begin = at; at != begin {
				wantNoFileWith(t, "begins at "+impl.Dec(at), f.text(), l)
			}
		}
	}
}

// The body of a block is chosen so that an index for a further block can be read out of it.
func TestIndexInABlock(t *testing.T) {
	inner := rawFileOf(seriesOf(pointsAt(2, 3), "in"))
	body := inner.blocks[0] + inner.spots[0].text()
	for _, text := range []string{
		summed("tsb1" + body + fourBytes(4)),
		summed("tsb1" + slowFrame(body) + fourBytes(12)),
		summed("tsb1" + slowFrame(body) + fourBytes(12+len(inner.blocks[0]))),
		summed("tsb1" + slowFrame(inner.spots[0].text()) + fourBytes(12)),
		summed("tsb1" + inner.blocks[0] + slowFrame(inner.spots[0].text()) + fourBytes(4+len(inner.blocks[0])+8)),
		summed("tsb1" + inner.blocks[0] + inner.spots[0].text() + inner.spots[0].text() + fourBytes(len("tsb1"+body))),
		summed("tsb1" + inner.blocks[0] + inner.spots[0].text() + inner.spots[0].text() + fourBytes(inner.begin)),
		summed("tsb1" + inner.blocks[0] + inner.blocks[0] + inner.spots[0].text() + fourBytes(4+2*len(inner.blocks[0]))),
	} {
		wantNoFileWith(t, "an index in a block", text, seriesOf(nil, "in"))
		if _, ok := slowReadFile(text); ok {
			t.Fatalf("the words read %s", brief(text))
		}
	}
}

func TestIndexAheadOfTheBlocks(t *testing.T) {
	for _, l := range shortSeries() {
		f := rawFileOf(l)
		index := ""
		for _, s := range f.spots {
			index += s.text()
		}
		blocks := strings.Join(f.blocks, "")
		wantNoFileWith(t, "the index ahead", summed("tsb1"+index+blocks+fourBytes(4)), l)
		f.move(0, len(index))
		index = ""
		for _, s := range f.spots {
			index += s.text()
		}
		wantNoFileWith(t, "the index ahead, places moved", summed("tsb1"+index+blocks+fourBytes(4)), l)
		wantNoFileWith(t, "the index alone", summed("tsb1"+index+fourBytes(4)), l)
		wantNoFileWith(t, "the blocks alone", summed("tsb1"+blocks+fourBytes(4+len(blocks))), l)
	}
}

// Parts that are right, each alone, in another order, or of two keys at one place.
func TestFilesInAnotherOrder(t *testing.T) {
	for _, l := range shortSeries() {
		if len(l) < 2 {
			continue
		}
		f := rawFileOf(l)
		slices.Reverse(f.spots)
		wantNoFileWith(t, "spots turned", f.text(), l)

		f = rawFileOf(l)
		slices.Reverse(f.blocks)
		wantNoFileWith(t, "blocks turned", swapped(f, l).text(), l)

		other := copySeries(l)
		slices.Reverse(other)
		wantNoFileWith(t, "series turned", rawFileOf(other).text(), l)

		f = rawFileOf(l)
		last := len(l) - 1
		f.spots[last].at, f.spots[last].size, f.spots[last].first, f.spots[last].last = f.spots[0].at, f.spots[0].size, f.spots[0].first, f.spots[0].last
		wantNoFileWith(t, "two keys at one place", f.text(), l)
		f.blocks = f.blocks[:last]
		f.begin = 4 + len(strings.Join(f.blocks, ""))
		wantNoFileWith(t, "two keys with one block", f.text(), l)

		f = rawFileOf(l)
		f.spots[0].key = f.spots[1].key
		wantNoFileWith(t, "keys that stay", f.text(), l)
		f.spots[0].key = l[last].Key + "z"
		wantNoFileWith(t, "a first key behind the others", f.text(), l)
	}
}

// swapped is f, whose blocks stand the other way round than those of l, with the places at which they stand.
func swapped(f rawFile, l []impl.Series) rawFile {
	at := 4
	for i, block := range f.blocks {
		spot := &f.spots[len(l)-1-i]
		spot.at, spot.size = at, len(block)
		at += len(block)
	}
	return f
}

// What FileText does not write is not read, though each part of it is as it should be.
func TestFilesOfWrongSeries(t *testing.T) {
	wantNoFile(t, "no series", rawFileOf(nil).text())
	wantNoFile(t, "no series, the index behind the start", summed("tsb1"+fourBytes(0)))
	for name, l := range wrongSeries() {
		if len(l) > 100 || slices.ContainsFunc(l, func(s impl.Series) bool { return !within(len(s.Points), 1, 100) || cannotBeShown(s.Points) }) {
			continue
		}
		wantNoFileWith(t, name, rawFileOf(l).text(), l)
	}
}

// cannotBeShown asks whether there is a number that no Var tells.
func cannotBeShown(l []impl.Point) bool {
	return slices.ContainsFunc(l, func(p impl.Point) bool { return !within(p.T, 0, 2*farTime) || !within(p.V, -2*farTime, 2*farTime) })
}

// A Var with a byte that is not needed is none: each Var of each spot.
func TestFilesWithANeedlessByte(t *testing.T) {
	for _, l := range shortSeries() {
		f := rawFileOf(l)
		blocks := "tsb1" + strings.Join(f.blocks, "")
		for i, s := range f.spots {
			for which := range 5 {
				ahead, behind := "", ""
				for j, other := range f.spots {
					if j < i {
						ahead += other.text()
					} else if j > i {
						behind += other.text()
					}
				}
				parts := []string{slowVar(len(s.key)), slowVar(s.at), slowVar(s.size), slowVar(s.first), slowVar(s.last)}
				last := len(parts[which]) - 1
				parts[which] = withByte(parts[which], last, parts[which][last]+128) + "\x00"
				parts[0] += s.key
				wantNoFileWith(t, "a needless byte", summed(blocks+ahead+strings.Join(parts, "")+behind+fourBytes(f.begin)), l)
			}
		}
	}
}

func TestFindKeysThatAreNotThere(t *testing.T) {
	l := []impl.Series{oneSeries("cpu", 1, 1), oneSeries("mem", 2, 2), oneSeries("mems", 3, 3), oneSeries("net", 4, 4, 5, 5)}
	s := impl.FileText(l)
	for _, series := range l {
		if points, ok := impl.FileFind(s, series.Key); !ok || !slices.Equal(points, series.Points) {
			t.Errorf("FileFind of %q = %v, %v", series.Key, points, ok)
		}
	}
	for _, key := range append(wrongKeys(), "a", "cp", "cpt", "cpua", "cpv", "d", "me", "mel", "mema", "memr", "memsa", "memt", "n", "ne", "nes", "netz", "neu", "z", "zzzzzzzz", "CPU", "cpu ", " cpu", "cpu\x00", "\x03cpu", "cpumem", "tsb1", s) {
		if points, ok := impl.FileFind(s, key); ok || len(points) != 0 {
			t.Errorf("FileFind of %q = %v, %v", key, points, ok)
		}
	}
	full := impl.FileText(seriesOf(pointsAt(1, 1), "b", "d", "f", "h", "j"))
	for at, key := range strings.Split("abcdefghijk", "") {
		if points, ok := impl.FileFind(full, key); ok != (at%2 == 1) || len(points) != at%2 {
			t.Errorf("FileFind of %q in a full file = %v, %v", key, points, ok)
		}
	}
}

func TestSpans(t *testing.T) {
	for _, c := range []struct {
		name            string
		l               []impl.Series
		least, greatest int
	}{
		{"one point", []impl.Series{oneSeries("a", 7, 1)}, 7, 7},
		{"one point at 0", []impl.Series{oneSeries("a", 0, 1)}, 0, 0},
		{"one point at MaxTime", []impl.Series{oneSeries("a", farTime, 1)}, farTime, farTime},
		{"one Series", []impl.Series{oneSeries("a", 7, 1, 8, 0, 20, -5)}, 7, 20},
		{"from 0 to MaxTime", []impl.Series{oneSeries("a", 0, 1, farTime, 2)}, 0, farTime},
		{"the first has both", []impl.Series{oneSeries("a", 1, 1, 90, 1), oneSeries("b", 30, 1), oneSeries("c", 2, 1, 89, 1)}, 1, 90},
		{"the last has both", []impl.Series{oneSeries("a", 2, 1, 89, 1), oneSeries("b", 30, 1), oneSeries("c", 1, 1, 90, 1)}, 1, 90},
		{"a middle one has both", []impl.Series{oneSeries("a", 50, 1), oneSeries("b", 10, 1, 90, 1), oneSeries("c", 60, 1)}, 10, 90},
		{"two middle ones", []impl.Series{oneSeries("a", 50, 1), oneSeries("b", 40, 1, 90, 1), oneSeries("c", 10, 1, 60, 1), oneSeries("d", 55, 1)}, 10, 90},
		{"times that fall", []impl.Series{oneSeries("a", 50, 1), oneSeries("b", 40, 1), oneSeries("c", 30, 1), oneSeries("d", 20, 1), oneSeries("e", 10, 1)}, 10, 50},
		{"times that rise", []impl.Series{oneSeries("a", 10, 1), oneSeries("b", 20, 1), oneSeries("c", 30, 1), oneSeries("d", 40, 1), oneSeries("e", 50, 1)}, 10, 50},
		{"values aside", []impl.Series{oneSeries("a", 10, -900), oneSeries("b", 20, 900)}, 10, 20},
		{"0 in the middle", []impl.Series{oneSeries("a", 10, 1), oneSeries("b", 0, 1), oneSeries("c", 5, 1)}, 0, 10},
	} {
		if from, to, ok := impl.FileSpan(impl.FileText(c.l)); from != c.least || to != c.greatest || !ok {
			t.Errorf("%s: FileSpan = %d, %d, %v, want %d, %d", c.name, from, to, ok, c.least, c.greatest)
		}
	}
	if from, to, ok := impl.FileSpan(""); from != 0 || to != 0 || ok {
		t.Errorf("FileSpan of the empty text = %d, %d, %v", from, to, ok)
	}
}

// However long a text is, and whatever it says of places and lengths, it is answered.
func TestLongTexts(t *testing.T) {
	f := rawFileOf(seriesOf(pointsAt(5, 6), "a"))
	for _, fill := range []string{"\x00", "\x01", "\x7f", "\x80", "\xff", "a"} {
		long := strings.Repeat(fill, 100000)
		for _, begin := range []int{0, 4, f.begin, 50000, 99999, 100004, 100012, 1<<32 - 1} {
			wantNoFile(t, "long", summed("tsb1"+long+fourBytes(begin)))
			wantNoFile(t, "a block ahead", summed("tsb1"+f.blocks[0]+long+fourBytes(begin)))
			wantNoFile(t, "long, without a sum", long+fourBytes(begin)+fourBytes(0))
		}
	}
	many := strings.Repeat(f.spots[0].text(), 10000)
	wantNoFile(t, "one spot again and again", summed("tsb1"+f.blocks[0]+many+fourBytes(f.begin)))
}

// someSeries are Series by chance, now and then not right.
func someSeries(r *rand.Rand) []impl.Series {
	keys := slices.Clone(rightKeys())
	r.Shuffle(len(keys), func(i, j int) { keys[i], keys[j] = keys[j], keys[i] })
	keys = keys[:r.IntN(6)]
	if r.IntN(12) > 0 {
		slices.Sort(keys)
	}
	var l []impl.Series
	for _, key := range keys {
		if r.IntN(60) == 0 {
			key = pick(r, wrongKeys()...)
		}
		points := pointsEvery(r.IntN(300), 1+r.IntN(5), 1+r.IntN(4), r.IntN(200)-100)
		if r.IntN(8) == 0 {
			points = somePoints(r)
		}
		l = append(l, impl.Series{Key: key, Points: points})
	}
	return l
}

// someTurned is the file of l with something by chance done to its parts; its sum is right.
func someTurned(r *rand.Rand, l []impl.Series) string {
	f := rawFileOf(l)
	for range r.IntN(3) {
		spot := &f.spots[r.IntN(len(l))]
		by := pick(r, -1, 1, 2, 11, 100)
		switch r.IntN(8) {
		case 0:
			f.begin = changedBy(f.begin, by)
		case 1:
			spot.at = changedBy(spot.at, by)
		case 2:
			spot.size = changedBy(spot.size, by)
		case 3:
			spot.first = changedBy(spot.first, by)
		case 4:
			spot.last = changedBy(spot.last, by)
		case 5:
			spot.key = pick(r, append(rightKeys(), "", "A", "toolongkey")...)
		case 6:
			i, j := r.IntN(len(l)), r.IntN(len(l))
			f.spots[i], f.spots[j] = f.spots[j], f.spots[i]
		case 7:
			f.between[r.IntN(4)] = pick(r, "\x00", "a", "\xff")
		}
	}
	return f.text()
}

func TestFilesAgainstTheWords(t *testing.T) {
	r := rand.New(rand.NewPCG(9, 1))
	written, not, read, unread := 0, 0, 0, 0
	for range 8000 {
		l := someSeries(r)
		s := impl.FileText(l)
		if s != slowFileText(l) || impl.SeriesOk(l) != slowSeriesOk(l) {
			t.Fatalf("FileText(%s) = %s, SeriesOk = %v; want %s, %v", brief(l), brief(s), impl.SeriesOk(l), brief(slowFileText(l)), slowSeriesOk(l))
		}
		if s == "" {
			not++
			continue
		}
		written++
		wantFile(t, "by chance", s, l, true)
		text := pick(r, someText(r, s), summed(someText(r, s[:len(s)-4])), someTurned(r, l), someTurned(r, l))
		if wantFileWords(t, text) {
			read++
		} else {
			unread++
		}
		for _, key := range []string{pick(r, rightKeys()...), pick(r, wrongKeys()...)} {
			points, ok := slowFileFind(text, key)
			if got, found := impl.FileFind(text, key); !slices.Equal(got, points) || found != ok {
				t.Fatalf("FileFind(%s, %q) = %s, %v, want %s, %v", brief(text), key, brief(got), found, brief(points), ok)
			}
		}
		least, greatest, ok := slowFileSpan(text)
		if from, to, got := impl.FileSpan(text); from != least || to != greatest || got != ok {
			t.Fatalf("FileSpan(%s) = %d, %d, %v, want %d, %d, %v", brief(text), from, to, got, least, greatest, ok)
		}
	}
	if written < 3000 || not < 1000 || read < 1000 || unread < 1000 {
		t.Errorf("%d written, %d not; %d read, %d not", written, not, read, unread)
	}
}

// spareSeries are the series with room behind them and behind their points, and what stands there.
func spareSeries(l []impl.Series) []impl.Series {
	var row []impl.Series
	for _, s := range l {
		row = append(row, impl.Series{Key: strings.Clone(s.Key), Points: sparePoints(s.Points)})
	}
	return append(row, oneSeries("room", 7, 7))[:len(l)]
}

// sameWithRoom asks whether the series, and what stands behind them and their points, are as spareSeries made them.
func sameWithRoom(a, b []impl.Series) bool {
	a, b = a[:len(a)+1], b[:len(b)+1]
	for i := range len(a) - 1 {
		if !slices.Equal(roomOf(a[i].Points), roomOf(b[i].Points)) {
			return false
		}
	}
	return sameSeries(a, b)
}

func TestFilesWriteIntoNoArgument(t *testing.T) {
	for _, x := range append(rightSeries(), nil, seriesOf(pointsAt(5, 1), "b", "a"), seriesOf(nil, "a"), seriesOf(pointsAt(5, 1), "", "b")) {
		l := spareSeries(x)
		impl.SeriesOk(l)
		s := impl.FileText(l)
		again := impl.FileText(l)
		if !sameWithRoom(l, spareSeries(x)) {
			t.Fatalf("SeriesOk or FileText wrote into its argument: %s", brief(l))
		}
		if s != again || s != slowFileText(x) || sharesBytes(s, again) {
			t.Fatalf("FileText is another one when asked again, or the same memory: %s, %s", brief(s), brief(again))
		}
	}
}

func TestFileAnswersNewMemory(t *testing.T) {
	for _, l := range rightSeries() {
		s := impl.FileText(l)
		first, _ := impl.ReadFile(s)
		second, _ := impl.ReadFile(s)
		for i := range second {
			if sharesBytes(first[i].Key, s) || sharesBytes(first[i].Key, second[i].Key) {
				t.Fatalf("ReadFile hands out bytes of its argument, or of another answer: %q", first[i].Key)
			}
			spoil(second[i].Points)
			second[i].Key = "spoilt"
		}
		spoil(first[0].Points)
		if !sameSeries(first[1:], l[1:]) {
			t.Fatalf("ReadFile: an answer hangs on another one, or the points of one key on those of another: %s", brief(first))
		}
		for _, series := range l {
			found, _ := impl.FileFind(s, series.Key)
			again, _ := impl.FileFind(s, series.Key)
			spoil(again)
			if !slices.Equal(found, series.Points) {
				t.Fatalf("FileFind: an answer hangs on another one: %s", brief(found))
			}
		}
		wantFile(t, "read again", s, l, true)
	}
}
