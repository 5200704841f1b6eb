package tests

import (
	"math"
	"math/bits"
	"math/rand/v2"
	"slices"
	"strings"
	"testing"

	"loop.example/g00360/impl"
)

// Promise 8: ReadBlock of ShowBlock of right points, one at least, is them; no other text is read. Merge has each time of both once, of two the later value; merging in any grouping is one. Slices side by side are together the points.

// pointsAt are points of times and values in turn.
func pointsAt(numbers ...int) []impl.Point {
	var l []impl.Point
	for i := 0; i+1 < len(numbers); i += 2 {
		l = append(l, impl.Point{T: numbers[i], V: numbers[i+1]})
	}
	return l
}

// pointsEvery has a point at each step from first on, all of one value.
func pointsEvery(first, step, many, value int) []impl.Point {
	return withValues(evenly(first, step, many), []int{value})
}

// withValues takes the values again and again until each time has one.
func withValues(times, values []int) []impl.Point {
	var l []impl.Point
	for i, n := range times {
		l = append(l, impl.Point{T: n, V: values[i%len(values)]})
	}
	return l
}

func timesAndValues(l []impl.Point) (times, values []int) {
	for _, p := range l {
		times, values = append(times, p.T), append(values, p.V)
	}
	return times, values
}

func slowPointsOk(l []impl.Point) bool {
	for i, p := range l {
		if !within(p.T, 0, farTime) || !within(p.V, -farTime, farTime) || i > 0 && l[i-1].T >= p.T {
			return false
		}
	}
	return len(l) <= 60
}

// rawBlock is how points would be shown, right or not, with any count ahead of them.
func rawBlock(count int, l []impl.Point) string {
	times, values := timesAndValues(l)
	return slowFrame(slowVar(count) + rawTimes(times) + rawValues(values))
}

func slowShowBlock(l []impl.Point) string {
	if len(l) == 0 || !slowPointsOk(l) {
		return ""
	}
	return rawBlock(len(l), l)
}

func slowReadBlock(s string) ([]impl.Point, bool) {
	if !within(len(s), 9, 2008) || slowFrame(s[8:]) != s {
		return nil, false
	}
	body := s[8:]
	count, used := slowVarAt(body)
	times, more := slowReadTimes(body[used:], count)
	values, rest := slowReadValues(body[used+more:], count)
	if used == 0 || more == 0 || rest == 0 || used+more+rest != len(body) {
		return nil, false
	}
	return withValues(times, values), true
}

// slowMerge writes the values of both down by their times, those of b over those of a.
func slowMerge(a, b []impl.Point) ([]impl.Point, bool) {
	if !slowPointsOk(a) || !slowPointsOk(b) {
		return nil, false
	}
	at := map[int]int{}
	for _, p := range a {
		at[p.T] = p.V
	}
	for _, p := range b {
		at[p.T] = p.V
	}
	if len(at) > 60 {
		return nil, false
	}
	var l []impl.Point
	for n, v := range at {
		l = append(l, impl.Point{T: n, V: v})
	}
	slices.SortFunc(l, func(p, q impl.Point) int { return p.T - q.T })
	return l, true
}

func slowSlice(l []impl.Point, from, to int) []impl.Point {
	if !slowPointsOk(l) {
		return nil
	}
	return slices.DeleteFunc(slices.Clone(l), func(p impl.Point) bool { return p.T < from || p.T >= to })
}

// rightPoints are right, one at least: each row of times with some values, and each row of values at some times.
func rightPoints() [][]impl.Point {
	var l [][]impl.Point
	for i, times := range timeRows() {
		l = append(l, withValues(times, valueRows()[i%len(valueRows())]))
	}
	for i, values := range valueRows() {
		l = append(l, withValues(evenly(i, 1+i*i, len(values)), values))
	}
	return l
}

// wrongPoints are not right: of each kind of fault one at the first, a middle and the last place.
func wrongPoints() [][]impl.Point {
	l := [][]impl.Point{pointsEvery(0, 1, 61, 5), pointsEvery(0, 1, 62, 0), pointsEvery(0, 1, 5000, 0)}
	for _, times := range wrongTimes() {
		if len(times) > 0 {
			l = append(l, withValues(times, []int{3, -4, 5}))
		}
	}
	for _, values := range wrongValues() {
		if len(values) > 0 {
			l = append(l, withValues(evenly(8, 2, len(values)), values))
		}
	}
	return l
}

func TestPointsOkEdges(t *testing.T) {
	for _, c := range []struct {
		name string
		l    []impl.Point
		want bool
	}{
		{"nil", nil, true},
		{"no point", []impl.Point{}, true},
		{"one", pointsAt(10, -3), true},
		{"the zero Point", []impl.Point{{}}, true},
		{"59", pointsEvery(0, 1, 59, 7), true},
		{"MaxPoints", pointsEvery(0, 1, 60, 7), true},
		{"one more", pointsEvery(0, 1, 61, 7), false},
		{"far more", pointsEvery(0, 1, 100000, 7), false},
		{"T -1", pointsAt(-1, 0), false},
		{"T 0", pointsAt(0, 0), true},
		{"T 1", pointsAt(1, 0), true},
		{"T MaxTime - 1", pointsAt(farTime-1, 0), true},
		{"T MaxTime", pointsAt(farTime, 0), true},
		{"T MaxTime + 1", pointsAt(farTime+1, 0), false},
		{"the least T", pointsAt(math.MinInt, 0), false},
		{"the greatest T", pointsAt(math.MaxInt, 0), false},
		{"V -MaxValue - 1", pointsAt(5, -farTime-1), false},
		{"V -MaxValue", pointsAt(5, -farTime), true},
		{"V -MaxValue + 1", pointsAt(5, 1-farTime), true},
		{"V -1", pointsAt(5, -1), true},
		{"V MaxValue - 1", pointsAt(5, farTime-1), true},
		{"V MaxValue", pointsAt(5, farTime), true},
		{"V MaxValue + 1", pointsAt(5, farTime+1), false},
		{"the least V", pointsAt(5, math.MinInt), false},
		{"the greatest V", pointsAt(5, math.MaxInt), false},
		{"T rises by 1", pointsAt(5, 9, 6, 1), true},
		{"T stays", pointsAt(5, 1, 5, 9), false},
		{"a point twice", pointsAt(5, 1, 5, 1), false},
		{"T falls by 1", pointsAt(6, 1, 5, 9), false},
		{"T stays at 0", pointsAt(0, 1, 0, 9), false},
		{"T stays at MaxTime", pointsAt(farTime, 1, farTime, 9), false},
		{"V stays", pointsAt(5, 1, 6, 1), true},
		{"V falls", pointsAt(5, 1, 6, -farTime), true},
		{"all edges", pointsAt(0, -farTime, farTime, farTime), true},
		{"T rises, then stays", pointsAt(1, 0, 2, 0, 2, 0), false},
		{"T rises, then falls", pointsAt(1, 0, 3, 0, 2, 0), false},
		{"T falls below the first", pointsAt(1, 0, 3, 0, 0, 0), false},
		{"the last T of 60 stays", append(pointsEvery(0, 1, 59, 7), pointsAt(58, 7)...), false},
		{"the last T of 60 beyond", append(pointsEvery(0, 1, 59, 7), pointsAt(farTime+1, 7)...), false},
		{"the last V of 60 beyond", append(pointsEvery(0, 1, 59, 7), pointsAt(59, farTime+1)...), false},
		{"the first V of 60 beyond", append(pointsAt(0, -farTime-1), pointsEvery(1, 1, 59, 7)...), false},
	} {
		if ok := impl.PointsOk(c.l); ok != c.want || slowPointsOk(c.l) != c.want {
			t.Errorf("%s: PointsOk = %v, the words say %v, want %v", c.name, ok, slowPointsOk(c.l), c.want)
		}
	}
}

func TestPointsOkSamples(t *testing.T) {
	for _, l := range rightPoints() {
		if !impl.PointsOk(l) || !slowPointsOk(l) {
			t.Errorf("PointsOk(%s) = %v", brief(l), impl.PointsOk(l))
		}
	}
	for _, l := range wrongPoints() {
		if impl.PointsOk(l) || slowPointsOk(l) {
			t.Errorf("PointsOk(%s) = %v", brief(l), impl.PointsOk(l))
		}
	}
}

// Every row of at most three points over the edges of T and V, right or not, is shown and cut as the words say.
func TestAllFewPoints(t *testing.T) {
	var points []impl.Point
	for _, n := range []int{math.MinInt, -1, 0, 1, farTime, farTime + 1, math.MaxInt} {
		for _, v := range []int{-farTime - 1, -farTime, 0, farTime, farTime + 1} {
			points = append(points, impl.Point{T: n, V: v})
		}
	}
	rows := [][]impl.Point{nil}
	for begin := 0; len(rows[begin]) < 3; begin++ {
		for _, p := range points {
			rows = append(rows, append(slices.Clone(rows[begin]), p))
		}
	}
	seen := map[string]bool{}
	for _, l := range rows {
		if ok := impl.PointsOk(l); ok != slowPointsOk(l) {
			t.Fatalf("PointsOk(%v) = %v", l, ok)
		}
		s := impl.ShowBlock(l)
		if s != slowShowBlock(l) || s != "" && seen[s] {
			t.Fatalf("ShowBlock(%v) = %q, want %q, as that of no other points", l, s, slowShowBlock(l))
		}
		if s != "" {
			seen[s] = true
			wantBlock(t, s, l, true)
		}
		wantSlice(t, l, 0, farTime)
	}
	// Three times and three values are right: 9 rows of one point, 27 of two, 27 of three.
	if len(seen) != 9+27+27 {
		t.Errorf("%d are shown", len(seen))
	}
}

// wantBlock tells where a text is read otherwise than wanted.
func wantBlock(t *testing.T, s string, want []impl.Point, ok bool) {
	t.Helper()
	if l, got := impl.ReadBlock(s); !slices.Equal(l, want) || got != ok {
		t.Fatalf("ReadBlock(%s) = %s, %v, want %s, %v", brief(s), brief(l), got, brief(want), ok)
	}
}

func wantNoBlock(t *testing.T, s string) {
	t.Helper()
	wantBlock(t, s, nil, false)
}

// wantBlockWords tells where a text is read otherwise than the words say; it answers whether it is read.
func wantBlockWords(t *testing.T, s string) bool {
	t.Helper()
	want, ok := slowReadBlock(s)
	wantBlock(t, s, want, ok)
	if ok && slowShowBlock(want) != s {
		t.Fatalf("the words read %s as %s, and show it otherwise", brief(s), brief(want))
	}
	return ok
}

// Texts are written out by hand.
func TestBlockBytes(t *testing.T) {
	for _, c := range []struct {
		l    []impl.Point
		want string
	}{
		{pointsAt(0, 0), "\x00\x00\x00\x03\x7c\x5d\x71\x2a\x01\x00\x00"},
		{pointsAt(7, -1), "\x00\x00\x00\x03\xf4\x5b\x3b\x6c\x01\x07\x01"},
		{pointsAt(1099511627776, 1099511627776), "\x00\x00\x00\x0d\xaa\x80\x2c\x66\x01\x80\x80\x80\x80\x80\x20\x80\x80\x80\x80\x80\x40"},
		{pointsAt(1099511627776, -1099511627776), "\x00\x00\x00\x0d\xde\xd3\xc5\xb6\x01\x80\x80\x80\x80\x80\x20\xff\xff\xff\xff\xff\x3f"},
		{pointsAt(10, -3, 20, -3), "\x00\x00\x00\x05\xf5\x37\x3e\x91\x02\x0a\x0a\x05\x00"},
		{pointsAt(0, -1099511627776, 1099511627776, 1099511627776), "\x00\x00\x00\x15\x21\xd5\xfc\x14\x02\x00\x80\x80\x80\x80\x80\x20\xff\xff\xff\xff\xff\x3f\x80\x80\x80\x80\x80\x80\x01"},
		{pointsAt(10, 5, 20, 6, 29, 4), "\x00\x00\x00\x07\x78\x2c\xaf\xdb\x03\x0a\x0a\x01\x0a\x02\x03"},
		{pointsAt(100, 20, 160, 21, 220, 21, 281, -50), "\x00\x00\x00\x0a\xae\xcd\xf6\x3e\x04\x64\x3c\x00\x02\x28\x02\x00\x8d\x01"},
		{pointsAt(3, 64, 1000, -64, 2000, 0, 2001, 1000000, 2002, 1000000, 9000, -1), "\x00\x00\x00\x17\xc8\x84\xad\x6a\x06\x03\xe5\x07\x06\xcd\x0f\x00\xaa\x6d\x80\x01\xff\x01\x80\x01\x80\x89\x7a\x00\x81\x89\x7a"},
		{pointsEvery(0, 1, 60, 0), "\x00\x00\x00\x79\x5f\xf9\xc2\xc2\x3c\x00\x01" + strings.Repeat("\x00", 118)},
		{withValues(evenly(1000, 60, 60), evenly(0, -1, 60)), "\x00\x00\x00\x7a\x45\xfd\x93\x6b\x3c\xe8\x07\x3c" + strings.Repeat("\x00", 59) + strings.Repeat("\x01", 59)},
		{nil, ""},
		{[]impl.Point{}, ""},
		{pointsAt(5, 1, 5, 1), ""},
	} {
		if s := impl.ShowBlock(c.l); s != c.want || slowShowBlock(c.l) != c.want {
			t.Errorf("ShowBlock(%v) = %q, the words say %q, want %q", c.l, s, slowShowBlock(c.l), c.want)
		}
		if c.want != "" {
			wantBlock(t, c.want, c.l, true)
		}
	}
}

func TestPointsThatAreNotShown(t *testing.T) {
	for _, l := range wrongPoints() {
		if s := impl.ShowBlock(l); s != "" {
			t.Errorf("ShowBlock(%s) = %s", brief(l), brief(s))
		}
	}
}

// How many points there are, from none to some more than may be.
func TestBlocksOfEachLength(t *testing.T) {
	for many := range 70 {
		l := pointsEvery(100, 150, many, -200)
		s := impl.ShowBlock(l)
		if s != slowShowBlock(l) || (s == "") != (many == 0 || many > 60) {
			t.Errorf("ShowBlock of %d points = %s", many, brief(s))
		}
		if within(many, 1, 60) {
			wantBlock(t, s, l, true)
		} else {
			wantNoBlock(t, rawBlock(many, l))
		}
	}
}

func TestBlocksReadBack(t *testing.T) {
	for _, l := range rightPoints() {
		s := impl.ShowBlock(l)
		if s == "" || s != slowShowBlock(l) {
			t.Errorf("ShowBlock(%s) = %s, want %s", brief(l), brief(s), brief(slowShowBlock(l)))
		}
		wantBlock(t, s, l, true)
	}
}

func TestBlocksWithBytesBehindOrAhead(t *testing.T) {
	long := strings.Repeat("\x00\xff", 1<<16)
	for _, l := range rightPoints() {
		s := impl.ShowBlock(l)
		for _, b := range []byte(allBytes()) {
			wantNoBlock(t, s+string([]byte{b}))
			wantNoBlock(t, string([]byte{b})+s)
		}
		for _, more := range append(tails(), allBytes(), long, s, impl.ShowBlock(pointsAt(7, -1))) {
			if more != "" {
				wantNoBlock(t, s+more)
				wantNoBlock(t, more+s)
			}
		}
	}
}

func TestBlocksCutOff(t *testing.T) {
	for _, l := range rightPoints() {
		s := impl.ShowBlock(l)
		for end := range len(s) {
			wantNoBlock(t, s[:end])
			if end > 0 {
				wantNoBlock(t, s[end:])
			}
			// Cut within its frame, whose length and sum fit again.
			if end > 8 {
				wantNoBlock(t, slowFrame(s[8:end]))
			}
		}
	}
}

func TestBlocksWithAByteTurned(t *testing.T) {
	for _, l := range rightPoints() {
		s := impl.ShowBlock(l)
		for at := range len(s) {
			for b := range 256 {
				// Of long texts each bit alone is turned.
				if s[at] == byte(b) || len(s) > 40 && bits.OnesCount8(s[at]^byte(b)) > 1 {
					continue
				}
				wantNoBlock(t, withByte(s, at, byte(b)))
			}
		}
	}
}

// A byte is turned, and the frame put together anew: what is read then is other points, or none.
func TestBlocksWithABodyTurned(t *testing.T) {
	read, not := 0, 0
	for _, l := range rightPoints() {
		body := impl.ShowBlock(l)[8:]
		for at := range len(body) {
			for b := range 256 {
				if body[at] == byte(b) || len(body) > 20 && bits.OnesCount8(body[at]^byte(b)) > 1 {
					continue
				}
				s := slowFrame(withByte(body, at, byte(b)))
				if wantBlockWords(t, s) {
					read++
				} else {
					not++
				}
				if got, _ := impl.ReadBlock(s); slices.Equal(got, l) {
					t.Fatalf("ReadBlock(%s) = %s, as without the turned byte", brief(s), brief(got))
				}
			}
		}
	}
	if read < 1000 || not < 1000 {
		t.Errorf("%d were read, %d not", read, not)
	}
}

func TestCountsThatAreNot(t *testing.T) {
	for _, l := range rightPoints() {
		for _, count := range []int{0, 1, 2, 3, len(l) - 1, len(l) + 1, 59, 60, 61, 62, 127, 128, 16384, impl.MaxVar} {
			if count != len(l) {
				wantNoBlock(t, rawBlock(count, l))
			}
		}
	}
	for _, many := range []int{61, 62, 100, 127, 128} {
		for _, count := range []int{60, many} {
			wantNoBlock(t, rawBlock(count, pointsEvery(0, 1, many, 0)))
			wantNoBlock(t, rawBlock(count, pointsEvery(1000, 200, many, 5)))
		}
	}
	zeros := strings.Repeat("\x00", 1000)
	for _, count := range []int{0, 61, 128, 499, impl.MaxVar} {
		wantNoBlock(t, slowFrame(slowVar(count)))
		wantNoBlock(t, slowFrame(slowVar(count)+zeros))
		wantNoBlock(t, slowFrame(slowVar(count)+"\x00\x01"+zeros[:max(2*count-2, 0)%1000]))
	}
}

// A Var with a byte that is not needed is none: that of the count, or of any time or value.
func TestBlocksWithANeedlessByte(t *testing.T) {
	for _, l := range rightPoints() {
		body := impl.ShowBlock(l)[8:]
		for at, b := range []byte(body) {
			if b < 128 {
				wantNoBlock(t, slowFrame(body[:at]+string([]byte{b + 128, 0})+body[at+1:]))
			}
		}
		for _, b := range []byte(allBytes()) {
			wantNoBlock(t, slowFrame(body+string([]byte{b})))
		}
		wantNoBlock(t, slowFrame(body+body))
		wantNoBlock(t, slowFrame(impl.ShowBlock(l)))
	}
}

func TestFramesThatAreNoBlocks(t *testing.T) {
	for name, s := range map[string]string{
		"nothing":              "",
		"no length":            "\x00\x00\x00\x00",
		"an empty body":        slowFrame(""),
		"a count alone":        slowFrame(vars(1)),
		"a time alone":         slowFrame(vars(1, 10)),
		"two times alone":      slowFrame(vars(2, 10, 10)),
		"a value lacks":        slowFrame(vars(2, 10, 10, 4)),
		"a value too many":     slowFrame(vars(2, 10, 10, 4, 0, 0)),
		"a Var that goes on":   slowFrame("\x01\x0a\x80"),
		"a count that goes on": slowFrame("\x80"),
		"a body beyond":        slowFrame(vars(1, 10, 4) + strings.Repeat("\x00", 1998)),
		"two times alike":      rawBlock(2, pointsAt(10, 1, 10, 2)),
		"three, two alike":     rawBlock(3, pointsAt(10, 1, 20, 2, 20, 3)),
		"times that fall":      rawBlock(3, pointsAt(10, 1, 20, 2, 19, 3)),
		"a time beyond":        rawBlock(1, pointsAt(farTime+1, 0)),
		"a second time beyond": rawBlock(2, pointsAt(5, 0, farTime+1, 0)),
		"a third time beyond":  rawBlock(3, pointsAt(5, 0, 6, 0, farTime+1, 0)),
		"a time below 0":       rawBlock(4, pointsAt(5, 0, 6, 0, 8, 0, -1, 0)),
		"a value beyond":       rawBlock(1, pointsAt(5, farTime+1)),
		"a value below":        rawBlock(1, pointsAt(5, -farTime-1)),
		"a later value beyond": rawBlock(3, pointsAt(5, 7, 6, farTime, 7, farTime+1)),
		"a later value below":  rawBlock(3, pointsAt(5, 7, 6, -farTime, 7, -farTime-1)),
		"a time of no ZigZag":  slowFrame(vars(3, 5, 1, impl.MaxVar, 0, 0, 0)),
		"a value of no ZigZag": slowFrame(vars(1, 5, impl.MaxVar)),
		"values ahead":         slowFrame(vars(2, 5, 0, 10, 10)),
		"the sum of the body":  fourBytes(5) + fourBytes(slowCrc("\x02\x0a\x0a\x05\x00")) + "\x02\x0a\x0a\x05\x00",
	} {
		if l, ok := impl.ReadBlock(s); len(l) != 0 || ok {
			t.Errorf("%s: ReadBlock(%s) = %v, %v", name, brief(s), l, ok)
		}
	}
}

func TestAllShortBlocks(t *testing.T) {
	read := 0
	for _, body := range textsOf("\x00\x01\x02\x03\x7f\x80\xff", 6) {
		if wantBlockWords(t, slowFrame(body)) {
			read++
		}
	}
	if read < 200 {
		t.Errorf("only %d were read", read)
	}
}

// wantMerge tells where Merge answers otherwise than wanted.
func wantMerge(t *testing.T, name string, a, b, want []impl.Point, ok bool) {
	t.Helper()
	if l, got := impl.Merge(a, b); !slices.Equal(l, want) || got != ok {
		t.Fatalf("%s: Merge(%s, %s) = %s, %v, want %s, %v", name, brief(a), brief(b), brief(l), got, brief(want), ok)
	}
}

func TestMergeKnown(t *testing.T) {
	for _, c := range []struct {
		name       string
		a, b, want []impl.Point
	}{
		{"nothing on both sides", nil, nil, nil},
		{"nothing, not nil", []impl.Point{}, []impl.Point{}, nil},
		{"nothing in a", nil, pointsAt(1, 2, 3, 4), pointsAt(1, 2, 3, 4)},
		{"nothing in b", pointsAt(1, 2, 3, 4), nil, pointsAt(1, 2, 3, 4)},
		{"a ahead of b", pointsAt(1, 2, 3, 4), pointsAt(5, 6, 7, 8), pointsAt(1, 2, 3, 4, 5, 6, 7, 8)},
		{"b ahead of a", pointsAt(5, 6, 7, 8), pointsAt(1, 2, 3, 4), pointsAt(1, 2, 3, 4, 5, 6, 7, 8)},
		{"woven", pointsAt(1, 10, 5, 50, 9, 90), pointsAt(3, 30, 7, 70, 11, 110), pointsAt(1, 10, 3, 30, 5, 50, 7, 70, 9, 90, 11, 110)},
		{"woven by twos", pointsAt(3, 1, 4, 1, 7, 1, 8, 1), pointsAt(1, 2, 2, 2, 5, 2, 6, 2), pointsAt(1, 2, 2, 2, 3, 1, 4, 1, 5, 2, 6, 2, 7, 1, 8, 1)},
		{"b within a", pointsAt(1, 10, 9, 90), pointsAt(4, 40, 5, 50), pointsAt(1, 10, 4, 40, 5, 50, 9, 90)},
		{"a within b", pointsAt(4, 40, 5, 50), pointsAt(1, 10, 9, 90), pointsAt(1, 10, 4, 40, 5, 50, 9, 90)},
		{"one time of both", pointsAt(5, 1), pointsAt(5, 2), pointsAt(5, 2)},
		{"one time of both, less in b", pointsAt(5, 2), pointsAt(5, 1), pointsAt(5, 1)},
		{"one point of both", pointsAt(5, 2), pointsAt(5, 2), pointsAt(5, 2)},
		{"the first of both", pointsAt(5, 1, 6, 1, 8, 1), pointsAt(5, 2, 7, 2), pointsAt(5, 2, 6, 1, 7, 2, 8, 1)},
		{"the last of both", pointsAt(5, 1, 9, 1), pointsAt(6, 2, 7, 2, 9, 2), pointsAt(5, 1, 6, 2, 7, 2, 9, 2)},
		{"a middle one of both", pointsAt(5, 1, 7, 1, 9, 1), pointsAt(6, 2, 7, 2, 8, 2), pointsAt(5, 1, 6, 2, 7, 2, 8, 2, 9, 1)},
		{"all times of both", pointsAt(1, 1, 2, 1, 3, 1), pointsAt(1, 2, 2, 2, 3, 2), pointsAt(1, 2, 2, 2, 3, 2)},
		{"all of b in a", pointsAt(1, 1, 2, 1, 3, 1, 4, 1), pointsAt(2, 2, 4, 2), pointsAt(1, 1, 2, 2, 3, 1, 4, 2)},
		{"all of a in b", pointsAt(2, 2, 4, 2), pointsAt(1, 1, 2, 1, 3, 1, 4, 1), pointsAt(1, 1, 2, 1, 3, 1, 4, 1)},
		{"the last of a the first of b", pointsAt(1, 1, 2, 1), pointsAt(2, 2, 3, 2), pointsAt(1, 1, 2, 2, 3, 2)},
		{"the last of b the first of a", pointsAt(2, 1, 3, 1), pointsAt(1, 2, 2, 2), pointsAt(1, 2, 2, 2, 3, 1)},
		{"a value of 0 in b", pointsAt(0, 5), pointsAt(0, 0), pointsAt(0, 0)},
		{"the edges", pointsAt(0, -farTime, farTime, farTime), pointsAt(0, farTime, farTime, -farTime), pointsAt(0, farTime, farTime, -farTime)},
		{"edges of either", pointsAt(farTime, 1), pointsAt(0, 2), pointsAt(0, 2, farTime, 1)},
	} {
		wantMerge(t, c.name, c.a, c.b, c.want, true)
		if l, ok := slowMerge(c.a, c.b); !slices.Equal(l, c.want) || !ok {
			t.Errorf("%s: the words merge to %v, %v, want %v", c.name, l, ok, c.want)
		}
	}
}

func TestMergeOfARowWithItself(t *testing.T) {
	for _, l := range rightPoints() {
		wantMerge(t, "itself", l, l, l, true)
		wantMerge(t, "nothing behind", l, nil, l, true)
		wantMerge(t, "nothing ahead", nil, l, l, true)
		wantMerge(t, "its beginning", l, l[:len(l)/2], l, true)
		wantMerge(t, "its end", l[len(l)/2:], l, l, true)
		wantMerge(t, "both halves", l[:len(l)/2], l[len(l)/2:], l, true)
		wantMerge(t, "both halves turned", l[len(l)/2:], l[:len(l)/2], l, true)
		// The later values count, whichever they are.
		times, _ := timesAndValues(l)
		other := withValues(times, []int{farTime, -farTime, 0, 1})
		wantMerge(t, "others behind", l, other, other, true)
		wantMerge(t, "others ahead", other, l, l, true)
	}
}

func TestMergeOfRowsThatAreNotRight(t *testing.T) {
	right := [][]impl.Point{nil, pointsAt(5, 1), pointsAt(0, 0, farTime, 1), pointsEvery(0, 1, 60, 3), pointsEvery(farTime-59, 1, 60, 3)}
	for _, wrong := range wrongPoints() {
		for _, l := range right {
			wantMerge(t, "a is not right", wrong, l, nil, false)
			wantMerge(t, "b is not right", l, wrong, nil, false)
		}
		wantMerge(t, "both are not right", wrong, wrong, nil, false)
		wantMerge(t, "both are not right", wrong, pointsAt(2, 0, 2, 0), nil, false)
		wantMerge(t, "both are not right", pointsAt(1, farTime+1), wrong, nil, false)
	}
}

func TestMergeOfAsManyAsMayBe(t *testing.T) {
	for _, c := range []struct {
		name string
		a, b []impl.Point
		many int
	}{
		{"30 and 30", pointsEvery(0, 2, 30, 1), pointsEvery(1, 2, 30, 2), 60},
		{"30 and 31", pointsEvery(0, 2, 30, 1), pointsEvery(1, 2, 31, 2), 61},
		{"31 and 30", pointsEvery(0, 2, 31, 1), pointsEvery(1, 2, 30, 2), 61},
		{"59 and 1", pointsEvery(0, 1, 59, 1), pointsAt(100, 2), 60},
		{"1 and 59", pointsAt(100, 2), pointsEvery(0, 1, 59, 1), 60},
		{"60 and none", pointsEvery(0, 1, 60, 1), nil, 60},
		{"none and 60", nil, pointsEvery(0, 1, 60, 1), 60},
		{"60 and 1", pointsEvery(0, 1, 60, 1), pointsAt(60, 2), 61},
		{"1 and 60", pointsAt(60, 2), pointsEvery(0, 1, 60, 1), 61},
		{"60 and 1 ahead", pointsEvery(1, 1, 60, 1), pointsAt(0, 2), 61},
		{"60 and 1 within", pointsEvery(0, 2, 60, 1), pointsAt(31, 2), 61},
		{"60 and the first", pointsEvery(0, 1, 60, 1), pointsAt(0, 2), 60},
		{"60 and a middle one", pointsEvery(0, 1, 60, 1), pointsAt(31, 2), 60},
		{"60 and the last", pointsEvery(0, 1, 60, 1), pointsAt(59, 2), 60},
		{"60 and these", pointsEvery(0, 1, 60, 1), pointsEvery(0, 1, 60, 2), 60},
		{"60 and 59 of these", pointsEvery(0, 1, 60, 1), pointsEvery(1, 1, 60, 2), 61},
		{"31 and 30, one of both", pointsEvery(0, 1, 31, 1), pointsEvery(30, 1, 30, 2), 60},
		{"31 and 31, one of both", pointsEvery(0, 1, 31, 1), pointsEvery(30, 1, 31, 2), 61},
		{"40 and 40, 20 of both", pointsEvery(0, 1, 40, 1), pointsEvery(20, 1, 40, 2), 60},
		{"40 and 41, 20 of both", pointsEvery(0, 1, 40, 1), pointsEvery(20, 1, 41, 2), 61},
		{"40 and 40, 19 of both", pointsEvery(21, 1, 40, 1), pointsEvery(0, 1, 40, 2), 61},
		{"60 and 60 others", pointsEvery(0, 2, 60, 1), pointsEvery(1, 2, 60, 2), 120},
	} {
		want, ok := slowMerge(c.a, c.b)
		if ok != (c.many <= 60) || ok && len(want) != c.many {
			t.Errorf("%s: the words merge to %d, %v", c.name, len(want), ok)
		}
		wantMerge(t, c.name, c.a, c.b, want, ok)
	}
}

// mergeLeft and mergeRight merge three rows, the first two or the last two ahead.
func mergeLeft(a, b, c []impl.Point) ([]impl.Point, bool) {
	l, ok := impl.Merge(a, b)
	if !ok {
		return nil, false
	}
	return impl.Merge(l, c)
}

func mergeRight(a, b, c []impl.Point) ([]impl.Point, bool) {
	l, ok := impl.Merge(b, c)
	if !ok {
		return nil, false
	}
	return impl.Merge(a, l)
}

// wantOneGrouping answers whether the three rows are merged at all.
func wantOneGrouping(t *testing.T, a, b, c []impl.Point) bool {
	t.Helper()
	left, ok := mergeLeft(a, b, c)
	right, also := mergeRight(a, b, c)
	if !slices.Equal(left, right) || ok != also {
		t.Fatalf("%s, %s, %s are merged to %s, %v and %s, %v", brief(a), brief(b), brief(c), brief(left), ok, brief(right), also)
	}
	return ok
}

// Every three rows over four times; each row has values of its own, so that it shows whose one was taken.
func TestMergeInEachGrouping(t *testing.T) {
	rows := func(value int) [][]impl.Point {
		var l [][]impl.Point
		for set := range 16 {
			var row []impl.Point
			for n := range 4 {
				if set>>n&1 == 1 {
					row = append(row, impl.Point{T: n, V: value})
				}
			}
			l = append(l, row)
		}
		return l
	}
	for _, a := range rows(1) {
		for _, b := range rows(2) {
			want, ok := slowMerge(a, b)
			wantMerge(t, "four times", a, b, want, ok)
			for _, c := range rows(3) {
				if !wantOneGrouping(t, a, b, c) {
					t.Fatalf("%v, %v, %v are not merged", a, b, c)
				}
				all, _ := mergeLeft(a, b, c)
				if slow, _ := slowMerge(want, c); !slices.Equal(all, slow) {
					t.Fatalf("%v, %v, %v are merged to %v, want %v", a, b, c, all, slow)
				}
			}
		}
	}
}

// wantSlice tells where Slice answers otherwise than the words say.
func wantSlice(t *testing.T, l []impl.Point, from, to int) {
	t.Helper()
	if part := impl.Slice(l, from, to); !slices.Equal(part, slowSlice(l, from, to)) {
		t.Fatalf("Slice(%s, %d, %d) = %s, want %s", brief(l), from, to, brief(part), brief(slowSlice(l, from, to)))
	}
}

func TestSliceKnown(t *testing.T) {
	l := pointsAt(10, 1, 20, 2, 30, 3)
	for _, c := range []struct {
		from, to int
		want     []impl.Point
	}{
		{10, 31, l}, {0, 100, l}, {10, 30, l[:2]}, {10, 29, l[:2]}, {11, 31, l[1:]}, {9, 31, l}, {20, 31, l[1:]}, {20, 30, l[1:2]}, {19, 21, l[1:2]}, {20, 21, l[1:2]},
		{30, 31, l[2:]}, {10, 11, l[:1]}, {0, 10, nil}, {0, 11, l[:1]}, {31, 100, nil}, {11, 20, nil}, {21, 29, nil}, {25, 26, nil},
		{10, 10, nil}, {20, 20, nil}, {20, 10, nil}, {31, 10, nil}, {100, 0, nil}, {30, 20, nil}, {0, 0, nil},
		{-5, 15, l[:1]}, {-5, -1, nil}, {-1, 0, nil}, {math.MinInt, math.MaxInt, l}, {math.MinInt, math.MinInt, nil}, {math.MaxInt, math.MaxInt, nil}, {math.MaxInt, math.MinInt, nil},
		{math.MinInt, 20, l[:1]}, {20, math.MaxInt, l[1:]}, {math.MinInt, 10, nil}, {31, math.MaxInt, nil}, {30, math.MinInt, nil}, {math.MaxInt, 30, nil},
	} {
		if part := impl.Slice(l, c.from, c.to); !slices.Equal(part, c.want) {
			t.Errorf("Slice(%v, %d, %d) = %v, want %v", l, c.from, c.to, part, c.want)
		}
		if part := impl.Slice(nil, c.from, c.to); len(part) != 0 {
			t.Errorf("Slice of no point from %d to %d = %v", c.from, c.to, part)
		}
	}
	edges := pointsAt(0, 5, farTime, 6)
	for _, c := range []struct {
		from, to int
		want     []impl.Point
	}{
		{0, farTime, edges[:1]}, {0, farTime + 1, edges}, {1, farTime + 1, edges[1:]}, {1, farTime, nil}, {farTime, farTime, nil}, {farTime, math.MaxInt, edges[1:]}, {farTime + 1, math.MaxInt, nil}, {math.MinInt, 0, nil}, {math.MinInt, 1, edges[:1]},
	} {
		if part := impl.Slice(edges, c.from, c.to); !slices.Equal(part, c.want) {
			t.Errorf("Slice(%v, %d, %d) = %v, want %v", edges, c.from, c.to, part, c.want)
		}
	}
}

func TestSliceOfPointsThatAreNotRight(t *testing.T) {
	for _, l := range wrongPoints() {
		for _, c := range [][2]int{{math.MinInt, math.MaxInt}, {0, 20}, {10, 11}, {0, farTime + 1}, {20, 0}} {
			if part := impl.Slice(l, c[0], c[1]); len(part) != 0 {
				t.Errorf("Slice(%s, %d, %d) = %v", brief(l), c[0], c[1], part)
			}
		}
	}
}

// cutsOf are places at, ahead of and behind some of the times, and far beyond them; they rise.
func cutsOf(l []impl.Point) []int {
	cuts := []int{math.MinInt, -1, 0, 1, farTime, farTime + 1, math.MaxInt}
	for _, at := range []int{0, 1, len(l) / 2, len(l) - 1} {
		if within(at, 0, len(l)-1) {
			cuts = append(cuts, l[at].T-1, l[at].T, l[at].T+1)
		}
	}
	slices.Sort(cuts)
	return slices.Compact(cuts)
}

func TestSlicesSideBySide(t *testing.T) {
	for _, l := range rightPoints() {
		cuts := cutsOf(l)
		for _, from := range cuts {
			for _, to := range cuts {
				wantSlice(t, l, from, to)
			}
			ahead, behind := impl.Slice(l, math.MinInt, from), impl.Slice(l, from, math.MaxInt)
			if together := slices.Concat(ahead, behind); !slices.Equal(together, l) {
				t.Fatalf("cut at %d: %s", from, brief(together))
			}
			wantMerge(t, "both sides of a cut", ahead, behind, l, true)
			wantMerge(t, "both sides of a cut, turned", behind, ahead, l, true)
		}
		var together []impl.Point
		for i := range len(cuts) - 1 {
			together = append(together, impl.Slice(l, cuts[i], cuts[i+1])...)
		}
		if !slices.Equal(together, l) {
			t.Fatalf("cut at %v: %s", cuts, brief(together))
		}
	}
}

// somePoints are points by chance, now and then not right.
func somePoints(r *rand.Rand) []impl.Point {
	values := someValues(r)
	if len(values) == 0 || r.IntN(3) > 0 {
		values = []int{r.IntN(1000) - 500, r.IntN(9)}
	}
	if r.IntN(40) == 0 {
		values[r.IntN(len(values))] = pick(r, farTime+1, -farTime-1, math.MaxInt, math.MinInt)
	}
	times := someTimes(r)
	if r.IntN(2) == 0 {
		times = evenly(r.IntN(50), 1+r.IntN(3), r.IntN(50))
	}
	return withValues(times, values)
}

// someOver are points by chance at some of the times of l, and at some beside them.
func someOver(r *rand.Rand, l []impl.Point) []impl.Point {
	var other []impl.Point
	next := 0
	for _, p := range l {
		n := p.T + pick(r, 0, 0, 0, 1, -1)
		if r.IntN(3) > 0 && within(n, next, farTime) {
			other = append(other, impl.Point{T: n, V: r.IntN(100)})
			next = n + 1
		}
	}
	return other
}

func TestBlocksAgainstTheWords(t *testing.T) {
	r := rand.New(rand.NewPCG(8, 1))
	shown, not, read, unread := 0, 0, 0, 0
	for range 30000 {
		l := somePoints(r)
		s := impl.ShowBlock(l)
		if s != slowShowBlock(l) || impl.PointsOk(l) != slowPointsOk(l) {
			t.Fatalf("ShowBlock(%s) = %s, PointsOk = %v; want %s, %v", brief(l), brief(s), impl.PointsOk(l), brief(slowShowBlock(l)), slowPointsOk(l))
		}
		if s == "" {
			not++
			continue
		}
		shown++
		wantBlock(t, s, l, true)
		text := someText(r, s)
		if r.IntN(2) == 0 {
			text = slowFrame(someText(r, s[8:]))
		}
		if wantBlockWords(t, text) {
			read++
		} else {
			unread++
		}
	}
	if shown < 5000 || not < 3000 || read < 3000 || unread < 3000 {
		t.Errorf("%d shown, %d not; %d read, %d not", shown, not, read, unread)
	}
}

func TestMergeAgainstTheWords(t *testing.T) {
	r := rand.New(rand.NewPCG(8, 2))
	merged, not, grouped := 0, 0, 0
	for range 30000 {
		a := somePoints(r)
		b := pick(r, somePoints(r), someOver(r, a))
		c := pick(r, somePoints(r), someOver(r, b), someOver(r, a))
		want, ok := slowMerge(a, b)
		wantMerge(t, "by chance", a, b, want, ok)
		if ok {
			merged++
		} else {
			not++
		}
		if wantOneGrouping(t, a, b, c) {
			grouped++
		}
	}
	if merged < 5000 || not < 5000 || grouped < 5000 {
		t.Errorf("%d merged, %d not; %d of three", merged, not, grouped)
	}
}

func TestSlicesAgainstTheWords(t *testing.T) {
	r := rand.New(rand.NewPCG(8, 3))
	some, all := 0, 0
	for range 30000 {
		l := somePoints(r)
		near := func() int {
			if len(l) == 0 || r.IntN(6) == 0 {
				return pick(r, math.MinInt, math.MaxInt, -1, 0, farTime, r.IntN(farTime))
			}
			return l[r.IntN(len(l))].T + r.IntN(3) - 1
		}
		cuts := []int{near(), near(), near()}
		wantSlice(t, l, cuts[0], cuts[1])
		if part := impl.Slice(l, cuts[0], cuts[1]); len(part) > 0 && len(part) < len(l) {
			some++
		}
		slices.Sort(cuts)
		together := slices.Concat(impl.Slice(l, math.MinInt, cuts[0]), impl.Slice(l, cuts[0], cuts[1]), impl.Slice(l, cuts[1], cuts[2]), impl.Slice(l, cuts[2], math.MaxInt))
		if slowPointsOk(l) {
			all++
			if !slices.Equal(together, l) {
				t.Fatalf("%s cut at %v: %s", brief(l), cuts, brief(together))
			}
		}
	}
	if some < 5000 || all < 5000 {
		t.Errorf("%d cut, %d put together", some, all)
	}
}

// sparePoints are the points with room behind them, and what stands there.
func sparePoints(l []impl.Point) []impl.Point {
	return append(slices.Clone(l), pointsAt(77, 7, 78, 8)...)[:len(l)]
}

// roomOf is the points with what stands behind them.
func roomOf(l []impl.Point) []impl.Point {
	return l[:len(l)+2]
}

// spoil writes over points, and over the room behind them.
func spoil(l []impl.Point) {
	l = l[:cap(l)]
	for i := range l {
		l[i] = impl.Point{T: 99, V: 99}
	}
}

func TestMergeAnswersNewMemory(t *testing.T) {
	rows := [][]impl.Point{nil, pointsAt(5, 1), pointsAt(5, 2), pointsAt(6, 3, 9, 4), pointsEvery(0, 2, 30, 5), pointsEvery(1, 2, 30, 6), pointsEvery(0, 1, 60, 7), pointsEvery(0, 1, 61, 8)}
	for _, x := range rows {
		for _, y := range rows {
			a, b := sparePoints(x), sparePoints(y)
			first, ok := impl.Merge(a, b)
			second, _ := impl.Merge(a, b)
			spoil(second)
			if !slices.Equal(roomOf(a), roomOf(sparePoints(x))) || !slices.Equal(roomOf(b), roomOf(sparePoints(y))) {
				t.Fatalf("Merge wrote into an argument, or its answer is part of it: %s, %s", brief(roomOf(a)), brief(roomOf(b)))
			}
			spoil(a)
			spoil(b)
			if want, _ := slowMerge(x, y); !slices.Equal(first, want) || ok != (want != nil || len(x)+len(y) == 0) {
				t.Fatalf("Merge of %s and %s: the answer hangs on an argument, or on another answer: %s", brief(x), brief(y), brief(first))
			}
		}
	}
}

func TestBlockAnswersNewMemory(t *testing.T) {
	for _, x := range append(rightPoints(), nil, pointsAt(5, 1, 5, 1)) {
		l := sparePoints(x)
		impl.PointsOk(l)
		s := impl.ShowBlock(l)
		cuts := cutsOf(x)
		for _, to := range cuts {
			spoil(impl.Slice(l, math.MinInt, to))
			spoil(impl.Slice(l, to, math.MaxInt))
		}
		if !slices.Equal(roomOf(l), roomOf(sparePoints(x))) {
			t.Fatalf("PointsOk, ShowBlock or Slice wrote into its argument, or a slice is part of it: %s", brief(roomOf(l)))
		}
		part := impl.Slice(l, math.MinInt, math.MaxInt)
		spoil(l)
		if !slices.Equal(part, slowSlice(x, math.MinInt, math.MaxInt)) {
			t.Fatalf("a slice hangs on its argument: %s", brief(part))
		}
		first, _ := impl.ReadBlock(s)
		second, _ := impl.ReadBlock(s)
		spoil(second)
		if third, _ := impl.ReadBlock(s); s != "" && (!slices.Equal(first, x) || !slices.Equal(third, x)) {
			t.Fatalf("ReadBlock: an answer hangs on another one: %s, %s", brief(first), brief(third))
		}
	}
}
