package tests

import (
	"math"
	"math/bits"
	"math/rand/v2"
	"slices"
	"strings"
	"testing"

	"loop.example/g00360/impl"
)

// Promise 7: ReadTimes and ReadValues read what ShowTimes and ShowValues show, whatever stands behind it, and nothing else; UnZig of ZigZag of a number from -2^47 to 2^47 is it.

const farTime = 1 << 40

// A rowKind is one of the two kinds of rows: what the program makes of them, and what the document's words, done number by number, come to.
type rowKind struct {
	name     string
	show     func(l []int) string
	read     func(s string, n int) ([]int, int)
	slowShow func(l []int) string
	slowRead func(s string, n int) ([]int, int)
	rows     func() [][]int
}

func timesKind() rowKind {
	return rowKind{"Times", impl.ShowTimes, impl.ReadTimes, slowShowTimes, slowReadTimes, timeRows}
}

func valuesKind() rowKind {
	return rowKind{"Values", impl.ShowValues, impl.ReadValues, slowShowValues, slowReadValues, valueRows}
}

func rowKinds() []rowKind {
	return []rowKind{timesKind(), valuesKind()}
}

// slowZig takes a number whose double is an int.
func slowZig(n int) int {
	if n < 0 {
		return 2*-n - 1
	}
	return 2 * n
}

func slowUnZig(z int) (int, bool) {
	if !within(z, 0, 1<<48) {
		return 0, false
	}
	return z>>1 ^ -(z & 1), true
}

func slowTimesOk(l []int) bool {
	for i, n := range l {
		if !within(n, 0, farTime) || i > 0 && n <= l[i-1] {
			return false
		}
	}
	return within(len(l), 1, 60)
}

func slowValuesOk(l []int) bool {
	for _, n := range l {
		if !within(n, -farTime, farTime) {
			return false
		}
	}
	return within(len(l), 1, 60)
}

// rawTimes is how times would be shown, right or not, while none has to have a Var of a number below 0.
func rawTimes(l []int) string {
	text := ""
	for i, n := range l {
		switch i {
		case 0:
			text += slowVar(n)
		case 1:
			text += slowVar(n - l[0])
		default:
			text += slowVar(slowZig(n - l[i-1] - (l[i-1] - l[i-2])))
		}
	}
	return text
}

func rawValues(l []int) string {
	text := ""
	for i, n := range l {
		if i > 0 {
			n -= l[i-1]
		}
		text += slowVar(slowZig(n))
	}
	return text
}

func slowShowTimes(l []int) string {
	if !slowTimesOk(l) {
		return ""
	}
	return rawTimes(l)
}

func slowShowValues(l []int) string {
	if !slowValuesOk(l) {
		return ""
	}
	return rawValues(l)
}

// slowVarAt is the number with whose Var s begins, and its bytes; 0 and 0 when there is none.
func slowVarAt(s string) (int, int) {
	n, size := 0, 0
	for size < len(s) && size < 7 {
		n += int(s[size]%128) << (7 * size)
		size++
		if s[size-1] < 128 {
			if slowVar(n) != s[:size] {
				return 0, 0
			}
			return n, size
		}
	}
	return 0, 0
}

// slowReadRow reads n numbers one by one; next says what a Var makes of those ahead of it, and whether it may stand there.
func slowReadRow(s string, n int, next func(l []int, v int) (int, bool)) ([]int, int) {
	if !within(n, 1, 60) {
		return nil, 0
	}
	var l []int
	used := 0
	for len(l) < n {
		v, size := slowVarAt(s[used:])
		if size == 0 {
			return nil, 0
		}
		number, ok := next(l, v)
		if !ok {
			return nil, 0
		}
		l = append(l, number)
		used += size
	}
	return l, used
}

func slowReadTimes(s string, n int) ([]int, int) {
	return slowReadRow(s, n, func(l []int, v int) (int, bool) {
		i := len(l)
		switch i {
		case 0:
			return v, v <= farTime
		case 1:
			return l[0] + v, v > 0 && l[0]+v <= farTime
		}
		turn, ok := slowUnZig(v)
		next := l[i-1] + (l[i-1] - l[i-2]) + turn
		return next, ok && next > l[i-1] && next <= farTime
	})
}

func slowReadValues(s string, n int) ([]int, int) {
	return slowReadRow(s, n, func(l []int, v int) (int, bool) {
		next, ok := slowUnZig(v)
		if len(l) > 0 {
			next += l[len(l)-1]
		}
		return next, ok && within(next, -farTime, farTime)
	})
}

// evenly is many numbers from first on, each step above the one ahead.
func evenly(first, step, many int) []int {
	var l []int
	for i := range many {
		l = append(l, first+i*step)
	}
	return l
}

// timeRows are right: ordinary ones and those at the edges.
func timeRows() [][]int {
	return [][]int{
		{0}, {1}, {127}, {128}, {farTime - 1}, {farTime},
		{0, 1}, {0, 127}, {0, 128}, {5, 6}, {0, farTime}, {1, farTime}, {farTime - 1, farTime}, {farTime - 2, farTime},
		{0, 1, 2}, {0, 1, 3}, {0, 2, 3}, {0, 1, farTime}, {0, farTime - 1, farTime}, {farTime - 2, farTime - 1, farTime}, {farTime - 3, farTime - 1, farTime},
		{10, 20, 29}, {10, 20, 30}, {10, 20, 31}, {10, 80, 85}, {10, 80, 86}, {10, 20, 21}, {10, 20, 94}, {10, 20, 95},
		{1, 2, 4, 7, 11, 16}, {0, 100, 190, 270, 340, 400}, {3, 1000, 2000, 2001, 2002, 9000}, {0, 1 << 20, 1 << 30, 1<<30 + 1, 1 << 39, farTime},
		evenly(0, 1, 60), evenly(1000, 60, 60), evenly(farTime-59, 1, 60), evenly(0, farTime/59, 60), append(evenly(7, 3, 59), farTime), evenly(5, 300, 59),
	}
}

// valueRows are right: ordinary ones and those at the edges.
func valueRows() [][]int {
	toAndFro := slices.Repeat([]int{farTime, -farTime}, 30)
	return [][]int{
		{0}, {1}, {-1}, {63}, {64}, {-64}, {-65}, {farTime}, {-farTime}, {farTime - 1}, {1 - farTime},
		{0, 0}, {5, 5}, {5, 6}, {6, 5}, {-5, 5}, {0, farTime}, {0, -farTime}, {farTime, -farTime}, {-farTime, farTime}, {farTime, farTime}, {-farTime, -farTime},
		{1, 2, 3}, {3, 2, 1}, {-3, -3, 7}, {7, 7, 7, 7}, {0, 64, 0}, {-1, 0, 1}, {farTime, farTime, farTime - 1}, {-farTime, -farTime, 1 - farTime}, {100, 163, 99, 35, 35, -1000000},
		evenly(0, 0, 60), evenly(-30, 1, 60), evenly(30, -1, 60), evenly(farTime, -2*farTime/59, 60), toAndFro, evenly(-9, 200, 59),
	}
}

func TestRowConstants(t *testing.T) {
	got := []int{impl.MaxTime, impl.MaxValue, impl.MaxPoints}
	if want := []int{1099511627776, 1099511627776, 60}; !slices.Equal(got, want) {
		t.Errorf("%v, want %v", got, want)
	}
}

func TestZigZagKnown(t *testing.T) {
	for _, c := range [][2]int{
		{0, 0}, {-1, 1}, {1, 2}, {-2, 3}, {2, 4}, {63, 126}, {-64, 127}, {64, 128}, {-65, 129},
		{1 << 41, 1 << 42}, {-(1 << 41), 1<<42 - 1},
		{140737488355327, 281474976710654}, {-140737488355327, 281474976710653},
		{140737488355328, 281474976710656}, {-140737488355328, 281474976710655},
		{140737488355329, -1}, {-140737488355329, -1}, {140737488355330, -1}, {-140737488355330, -1},
		{1 << 48, -1}, {-(1 << 48), -1}, {1 << 62, -1}, {-(1 << 62), -1}, {1<<62 + 1, -1}, {-(1 << 62) - 1, -1},
		{math.MaxInt, -1}, {math.MinInt, -1}, {math.MaxInt - 1, -1}, {math.MinInt + 1, -1},
	} {
		if z := impl.ZigZag(c[0]); z != c[1] {
			t.Errorf("ZigZag(%d) = %d, want %d", c[0], z, c[1])
		}
	}
}

func TestUnZigKnown(t *testing.T) {
	for _, c := range []struct {
		z, n int
		ok   bool
	}{
		{0, 0, true}, {1, -1, true}, {2, 1, true}, {3, -2, true}, {4, 2, true}, {126, 63, true}, {127, -64, true}, {128, 64, true},
		{281474976710653, -140737488355327, true}, {281474976710654, 140737488355327, true}, {281474976710655, -140737488355328, true}, {281474976710656, 140737488355328, true},
		{281474976710657, 0, false}, {281474976710658, 0, false}, {281474976710659, 0, false}, {impl.MaxVar, 0, false}, {1 << 62, 0, false}, {math.MaxInt, 0, false}, {math.MaxInt - 1, 0, false},
		{-1, 0, false}, {-2, 0, false}, {-3, 0, false}, {-281474976710656, 0, false}, {math.MinInt, 0, false}, {math.MinInt + 1, 0, false},
	} {
		if n, ok := impl.UnZig(c.z); n != c.n || ok != c.ok {
			t.Errorf("UnZig(%d) = %d, %v, want %d, %v", c.z, n, ok, c.n, c.ok)
		}
	}
}

// The numbers 0, -1, 1, -2, 2 .. are the ZigZags 0, 1, 2, 3, 4 ..
func TestZigZagInOrder(t *testing.T) {
	want := 0
	for z := range 200000 {
		if n, ok := impl.UnZig(z); n != want || !ok || impl.ZigZag(want) != z {
			t.Fatalf("UnZig(%d) = %d, %v, ZigZag(%d) = %d", z, n, ok, want, impl.ZigZag(want))
		}
		if want >= 0 {
			want++
		}
		want = -want
	}
}

func TestUnZigOfZigZag(t *testing.T) {
	for _, n := range spread(1 << 47) {
		for _, n := range []int{n, -n} {
			if back, ok := impl.UnZig(impl.ZigZag(n)); back != n || !ok || !within(impl.ZigZag(n), 0, impl.MaxVar) {
				t.Errorf("UnZig(%d) of ZigZag(%d) = %d, %v", impl.ZigZag(n), n, back, ok)
			}
		}
	}
	for _, z := range spread(1 << 48) {
		if n, ok := impl.UnZig(z); !ok || impl.ZigZag(n) != z {
			t.Errorf("ZigZag(%d) of UnZig(%d) = %d, %v", n, z, impl.ZigZag(n), ok)
		}
	}
	for _, n := range spread(1 << 61) {
		if n > 1<<47 && (impl.ZigZag(n) != -1 || impl.ZigZag(-n) != -1) {
			t.Errorf("ZigZag(%d) = %d, ZigZag(%d) = %d", n, impl.ZigZag(n), -n, impl.ZigZag(-n))
		}
		if z, ok := impl.UnZig(n); n > 1<<48 && (z != 0 || ok) {
			t.Errorf("UnZig(%d) = %d, %v", n, z, ok)
		}
		if z, ok := impl.UnZig(-n); n > 0 && (z != 0 || ok) {
			t.Errorf("UnZig(%d) = %d, %v", -n, z, ok)
		}
	}
}

// A shownRow is a row and its bytes, written out by hand.
type shownRow struct {
	l    []int
	want string
}

func shownTimes() []shownRow {
	return []shownRow{
		{[]int{0}, "\x00"},
		{[]int{1}, "\x01"},
		{[]int{127}, "\x7f"},
		{[]int{128}, "\x80\x01"},
		{[]int{300}, "\xac\x02"},
		{[]int{1099511627776}, "\x80\x80\x80\x80\x80\x20"},
		{[]int{1099511627775}, "\xff\xff\xff\xff\xff\x1f"},
		{[]int{0, 1}, "\x00\x01"},
		{[]int{0, 127}, "\x00\x7f"},
		{[]int{0, 128}, "\x00\x80\x01"},
		{[]int{5, 6}, "\x05\x01"},
		{[]int{0, 1099511627776}, "\x00\x80\x80\x80\x80\x80\x20"},
		{[]int{1099511627775, 1099511627776}, "\xff\xff\xff\xff\xff\x1f\x01"},
		{[]int{0, 1, 2}, "\x00\x01\x00"},
		{[]int{0, 1, 3}, "\x00\x01\x02"},
		{[]int{0, 2, 3}, "\x00\x02\x01"},
		{[]int{10, 20, 30}, "\x0a\x0a\x00"},
		{[]int{10, 20, 31}, "\x0a\x0a\x02"},
		{[]int{10, 20, 29}, "\x0a\x0a\x01"},
		{[]int{10, 20, 94}, "\x0a\x0a\x80\x01"},
		{[]int{10, 20, 95}, "\x0a\x0a\x82\x01"},
		{[]int{10, 80, 86}, "\x0a\x46\x7f"},
		{[]int{10, 80, 85}, "\x0a\x46\x81\x01"},
		{[]int{0, 1, 1099511627776}, "\x00\x01\xfc\xff\xff\xff\xff\x3f"},
		{[]int{0, 1099511627775, 1099511627776}, "\x00\xff\xff\xff\xff\xff\x1f\xfb\xff\xff\xff\xff\x3f"},
		{[]int{3, 1000, 2000, 2001, 2002, 9000}, "\x03\xe5\x07\x06\xcd\x0f\x00\xaa\x6d"},
		{[]int{100, 160, 220, 280, 341, 400}, "\x64\x3c\x00\x00\x02\x03"},
		{evenly(0, 1, 60), "\x00\x01" + strings.Repeat("\x00", 58)},
		{evenly(300, 200, 60), "\xac\x02\xc8\x01" + strings.Repeat("\x00", 58)},
		{evenly(1099511627717, 1, 60), "\xc5\xff\xff\xff\xff\x1f\x01" + strings.Repeat("\x00", 58)},
	}
}

func shownValues() []shownRow {
	return []shownRow{
		{[]int{0}, "\x00"},
		{[]int{1}, "\x02"},
		{[]int{-1}, "\x01"},
		{[]int{63}, "\x7e"},
		{[]int{64}, "\x80\x01"},
		{[]int{-64}, "\x7f"},
		{[]int{-65}, "\x81\x01"},
		{[]int{1099511627776}, "\x80\x80\x80\x80\x80\x40"},
		{[]int{-1099511627776}, "\xff\xff\xff\xff\xff\x3f"},
		{[]int{0, 0}, "\x00\x00"},
		{[]int{5, 5}, "\x0a\x00"},
		{[]int{5, 6}, "\x0a\x02"},
		{[]int{6, 5}, "\x0c\x01"},
		{[]int{-3, -3, 7}, "\x05\x00\x14"},
		{[]int{1099511627776, -1099511627776}, "\x80\x80\x80\x80\x80\x40\xff\xff\xff\xff\xff\x7f"},
		{[]int{-1099511627776, 1099511627776}, "\xff\xff\xff\xff\xff\x3f\x80\x80\x80\x80\x80\x80\x01"},
		{[]int{1099511627776, -1099511627776, 1099511627776}, "\x80\x80\x80\x80\x80\x40\xff\xff\xff\xff\xff\x7f\x80\x80\x80\x80\x80\x80\x01"},
		{[]int{1, 2, 3}, "\x02\x02\x02"},
		{[]int{3, 2, 1}, "\x06\x01\x01"},
		{[]int{0, 64, 0}, "\x00\x80\x01\x7f"},
		{[]int{7, 7, 7, 7}, "\x0e\x00\x00\x00"},
		{[]int{-1, 0, 1}, "\x01\x02\x02"},
		{[]int{1099511627776, 1099511627776, 1099511627775}, "\x80\x80\x80\x80\x80\x40\x00\x01"},
		{[]int{-1099511627776, -1099511627776, -1099511627775}, "\xff\xff\xff\xff\xff\x3f\x00\x02"},
		{evenly(0, 0, 60), strings.Repeat("\x00", 60)},
		{evenly(-2, -1, 60), "\x03" + strings.Repeat("\x01", 59)},
		{evenly(9, 100, 60), "\x12" + strings.Repeat("\xc8\x01", 59)},
	}
}

// wantRead tells where a row is read otherwise than wanted.
func wantRead(t *testing.T, k rowKind, s string, n int, want []int, used int) {
	t.Helper()
	l, got := k.read(s, n)
	if !slices.Equal(l, want) || got != used {
		t.Fatalf("Read%s(%s, %d) = %s, %d, want %s, %d", k.name, brief(s), n, brief(l), got, brief(want), used)
	}
}

// wantWords tells where a text is read otherwise than the words say; it answers whether it is read.
func wantWords(t *testing.T, k rowKind, s string, n int) bool {
	t.Helper()
	want, used := k.slowRead(s, n)
	wantRead(t, k, s, n, want, used)
	if used > 0 && k.slowShow(want) != s[:used] {
		t.Fatalf("the words read %s for %d as %s, and show it otherwise", brief(s), n, brief(want))
	}
	return used > 0
}

func TestRowBytes(t *testing.T) {
	for _, c := range []struct {
		k    rowKind
		rows []shownRow
	}{{timesKind(), shownTimes()}, {valuesKind(), shownValues()}} {
		for _, r := range c.rows {
			if s := c.k.show(r.l); s != r.want {
				t.Errorf("Show%s(%v) = %q, want %q", c.k.name, r.l, s, r.want)
			}
			if s := c.k.slowShow(r.l); s != r.want {
				t.Errorf("the words show %s %v as %q, want %q", c.k.name, r.l, s, r.want)
			}
			for _, tail := range tails() {
				wantRead(t, c.k, r.want+tail, len(r.l), r.l, len(r.want))
			}
		}
	}
}

// wrongTimes are no rows of times: of each kind of fault one at the first, a middle and the last place.
func wrongTimes() [][]int {
	l := [][]int{
		nil, {},
		{-1}, {-2}, {farTime + 1}, {math.MinInt}, {math.MaxInt},
		{5, 5}, {0, 0}, {farTime, farTime}, {6, 5}, {farTime, 0}, {0, -1}, {-1, 0}, {-2, -1}, {0, farTime + 1}, {farTime, farTime + 1}, {0, math.MaxInt}, {0, math.MinInt}, {math.MinInt, math.MaxInt}, {math.MaxInt, math.MinInt},
		{1, 1, 2}, {1, 2, 2}, {1, 1, 1}, {3, 2, 1}, {1, 3, 2}, {2, 1, 3}, {-1, 0, 1}, {0, 1, farTime + 1}, {0, 1, math.MaxInt}, {0, 1, math.MinInt}, {0, 1, -1},
		evenly(0, 1, 61), evenly(0, 1, 62), evenly(0, 1, 1000), evenly(60, -1, 60), evenly(7, 0, 60), evenly(farTime-58, 1, 60), evenly(-1, 1, 60),
	}
	for _, at := range []int{0, 1, 2, 30, 58, 59} {
		for _, n := range []int{-1, farTime + 1, math.MinInt, math.MaxInt} {
			row := evenly(10, 7, 60)
			row[at] = n
			l = append(l, row)
		}
		if at > 0 {
			row := evenly(10, 7, 60)
			row[at] = row[at-1]
			l = append(l, row)
		}
	}
	return l
}

func wrongValues() [][]int {
	l := [][]int{
		nil, {},
		{farTime + 1}, {-farTime - 1}, {math.MinInt}, {math.MaxInt},
		{0, farTime + 1}, {0, -farTime - 1}, {farTime + 1, 0}, {-farTime - 1, 0}, {math.MinInt, math.MaxInt}, {math.MaxInt, math.MinInt}, {0, math.MinInt}, {0, math.MaxInt},
		{farTime, farTime + 1}, {-farTime, -farTime - 1}, {farTime + 1, farTime + 1}, {1, farTime + 1, 2}, {1, 2, -farTime - 1},
		evenly(0, 0, 61), evenly(0, 1, 62), evenly(0, 1, 1000), evenly(farTime-58, 1, 60), evenly(58-farTime, -1, 60),
	}
	for _, at := range []int{0, 1, 2, 30, 58, 59} {
		for _, n := range []int{-farTime - 1, farTime + 1, math.MinInt, math.MaxInt} {
			row := evenly(10, 7, 60)
			row[at] = n
			l = append(l, row)
		}
	}
	return l
}

func TestRowsThatAreNotSo(t *testing.T) {
	for _, l := range wrongTimes() {
		if s := impl.ShowTimes(l); s != "" || slowTimesOk(l) {
			t.Errorf("ShowTimes(%v) = %q", l, s)
		}
	}
	for _, l := range wrongValues() {
		if s := impl.ShowValues(l); s != "" || slowValuesOk(l) {
			t.Errorf("ShowValues(%v) = %q", l, s)
		}
	}
}

// How many numbers a row has, from none to some more than it may.
func TestRowsOfEachLength(t *testing.T) {
	for _, k := range rowKinds() {
		for many := range 70 {
			l := evenly(100, 150, many)
			s := k.show(l)
			if s != k.slowShow(l) || (s == "") != (many == 0 || many > 60) {
				t.Errorf("Show%s of %d numbers = %q", k.name, many, s)
			}
		}
		// More than MaxPoints are not read, even where they are there.
		zeros := strings.Repeat("\x00", 100)
		text := k.show(evenly(100, 150, 60)) + zeros
		for n := -3; n < 70; n++ {
			l, used := k.read(text, n)
			switch {
			case within(n, 1, 60) && (!slices.Equal(l, evenly(100, 150, n)) || used != len(k.show(l))):
				t.Errorf("Read%s of %d numbers = %v, %d", k.name, n, l, used)
			case !within(n, 1, 60) && (len(l) != 0 || used != 0):
				t.Errorf("Read%s of %d numbers = %v, %d", k.name, n, l, used)
			}
		}
	}
}

func TestRowsReadBack(t *testing.T) {
	long := strings.Repeat("\x00\xff", 1<<19)
	for _, k := range rowKinds() {
		for _, l := range k.rows() {
			s := k.show(l)
			if s != k.slowShow(l) || s == "" {
				t.Errorf("Show%s(%v) = %q, want %q", k.name, l, s, k.slowShow(l))
			}
			for _, tail := range append(tails(), allBytes(), long, s) {
				wantRead(t, k, s+tail, len(l), l, len(s))
			}
			// A beginning of a row is shown as a beginning of its text.
			for n := 1; n <= len(l); n++ {
				wantRead(t, k, s, n, l[:n], len(k.slowShow(l[:n])))
			}
			for _, n := range []int{math.MinInt, -60, -1, 0, len(l) + 1, 61, 62, math.MaxInt} {
				wantRead(t, k, s, n, nil, 0)
			}
		}
	}
}

func TestRowsCutOff(t *testing.T) {
	for _, k := range rowKinds() {
		for _, l := range k.rows() {
			s := k.show(l)
			for end := range len(s) {
				wantRead(t, k, s[:end], len(l), nil, 0)
				for _, n := range []int{1, 2, 3, len(l) - 1, len(l) + 1, 60} {
					wantWords(t, k, s[:end], n)
				}
			}
		}
	}
}

func TestRowsWithAByteTurned(t *testing.T) {
	for _, k := range rowKinds() {
		read, not := 0, 0
		for _, l := range k.rows() {
			s := k.show(l)
			for at := range len(s) {
				for b := range 256 {
					// Of long rows each bit alone is turned.
					if len(s) > 30 && bits.OnesCount8(s[at]^byte(b)) > 1 {
						continue
					}
					text := withByte(s, at, byte(b)) + "\x01\x00\x00"
					if wantWords(t, k, text, len(l)) {
						read++
					} else {
						not++
					}
					if got, _ := k.read(text, len(l)); s[at] != byte(b) && slices.Equal(got, l) {
						t.Fatalf("Read%s(%s, %d) = %v, as without the turned byte", k.name, brief(text), len(l), got)
					}
				}
			}
		}
		if read < 1000 || not < 1000 {
			t.Errorf("%s: %d were read, %d not", k.name, read, not)
		}
	}
}

// A Var with a byte that is not needed is none, at each place of a row.
func TestRowsWithANeedlessByte(t *testing.T) {
	for _, k := range rowKinds() {
		for _, l := range k.rows() {
			s := k.show(l)
			for n := range l {
				end := len(k.slowShow(l[:n+1]))
				text := s[:end-1] + string([]byte{s[end-1] + 128, 0}) + s[end:]
				wantRead(t, k, text, len(l), nil, 0)
				wantRead(t, k, text, n+1, nil, 0)
				if n > 0 {
					wantRead(t, k, text, n, l[:n], len(k.slowShow(l[:n])))
				}
			}
		}
	}
}

// vars is the Vars of numbers, whatever they come to.
func vars(numbers ...int) string {
	text := ""
	for _, n := range numbers {
		text += slowVar(n)
	}
	return text
}

// Each text is of as many Vars as are asked for, so what is wrong is what they come to.
func TestTimesThatAreNone(t *testing.T) {
	for _, l := range [][]int{
		{farTime + 1}, {1 << 47}, {1 << 48}, {impl.MaxVar},
		{10, 0}, {0, 0}, {farTime, 0}, {farTime, 1}, {0, farTime + 1}, {1, farTime}, {farTime + 1, 1}, {5, impl.MaxVar}, {impl.MaxVar, impl.MaxVar},
		// A gap of 10, turned by -10, -11, -1000: two alike, or falling.
		{10, 10, 19}, {10, 10, 21}, {10, 10, 1999}, {0, 1, 1}, {0, 1, 3}, {farTime - 1, 1, 1},
		// Beyond MaxTime by one, and by much.
		{farTime - 2, 1, 2}, {farTime - 1, 1, 0}, {0, 1, 2 * farTime}, {0, farTime, 0}, {0, 1, 1 << 48}, {0, 1, 1<<48 - 1},
		// No ZigZag.
		{0, 1, 1<<48 + 1}, {0, 1, 1<<48 + 2}, {0, 1, impl.MaxVar}, {0, 1, 0, impl.MaxVar},
		{0, 0, 2}, {10, 0, 2, 0}, {5, 10, 19, 2}, {5, 10, 0, 19},
		append([]int{0, 1}, slices.Repeat([]int{1 << 48}, 58)...), append([]int{0, 1}, slices.Repeat([]int{1<<48 - 1}, 58)...), slices.Repeat([]int{impl.MaxVar}, 60), slices.Repeat([]int{0}, 60),
		append(append([]int{100, 10}, slices.Repeat([]int{0}, 57)...), 19),
	} {
		wantRead(t, timesKind(), vars(l...), len(l), nil, 0)
		wantRead(t, timesKind(), vars(l...)+"\x02\x02", len(l), nil, 0)
	}
	// What stands behind the numbers that are asked for is not looked at.
	wantRead(t, timesKind(), vars(10, 0), 1, []int{10}, 1)
	wantRead(t, timesKind(), vars(10, 10, 19), 2, []int{10, 20}, 2)
	wantRead(t, timesKind(), vars(10, 10, 17), 3, []int{10, 20, 21}, 3)
	wantRead(t, timesKind(), vars(farTime-3, 1, 2, impl.MaxVar), 3, []int{farTime - 3, farTime - 2, farTime}, 8)
	for _, s := range []string{"", "\x80", "\xff\xff\xff\xff\xff\xff\xff", "\xff\xff\xff\xff\xff\xff\xff\x01", "\x80\x00"} {
		wantRead(t, timesKind(), s, 1, nil, 0)
	}
}

func TestValuesThatAreNone(t *testing.T) {
	for _, l := range [][]int{
		{2*farTime + 1}, {2*farTime + 2}, {1 << 48}, {1<<48 - 1}, {1<<48 + 1}, {impl.MaxVar},
		{2 * farTime, 2}, {2*farTime - 1, 1}, {2 * farTime, 4*farTime + 1}, {2*farTime - 1, 4*farTime + 2}, {0, 2*farTime + 2}, {0, 2*farTime + 1}, {0, 1 << 48}, {0, impl.MaxVar}, {0, 1<<48 + 1},
		{2*farTime + 2, 1}, {2*farTime + 1, 2}, {0, 2 * farTime, 2}, {0, 2 * farTime, 2, 1}, {2 * farTime, 2, 1},
		slices.Repeat([]int{1 << 48}, 60), slices.Repeat([]int{1<<48 - 1}, 60), slices.Repeat([]int{impl.MaxVar}, 60),
		append(slices.Repeat([]int{0}, 59), 2*farTime+2), append([]int{2 * farTime}, append(slices.Repeat([]int{0}, 58), 2)...),
	} {
		wantRead(t, valuesKind(), vars(l...), len(l), nil, 0)
		wantRead(t, valuesKind(), vars(l...)+"\x02\x02", len(l), nil, 0)
	}
	wantRead(t, valuesKind(), vars(2*farTime, 2), 1, []int{farTime}, 6)
	wantRead(t, valuesKind(), vars(2*farTime-1, 1), 1, []int{-farTime}, 6)
	wantRead(t, valuesKind(), vars(3, 0, impl.MaxVar), 2, []int{-2, -2}, 2)
	for _, s := range []string{"", "\x80", "\xff\xff\xff\xff\xff\xff\xff", "\xff\xff\xff\xff\xff\xff\xff\x01", "\x80\x00"} {
		wantRead(t, valuesKind(), s, 1, nil, 0)
	}
}

// The second number of times is no ZigZag: an odd one is no step back, and a 0 is two alike.
func TestSecondTime(t *testing.T) {
	for gap := range 300 {
		want := []int{7, 7 + gap}
		if gap == 0 {
			wantRead(t, timesKind(), vars(7, gap), 2, nil, 0)
			continue
		}
		wantRead(t, timesKind(), vars(7, gap), 2, want, 1+len(slowVar(gap)))
		if s := impl.ShowTimes(want); s != vars(7, gap) {
			t.Errorf("ShowTimes(%v) = %q", want, s)
		}
		// It is held against 0 itself, not against the first time.
		third := append(want, 7+2*gap)
		wantRead(t, timesKind(), vars(7, gap, 0), 3, third, 2+len(slowVar(gap)))
	}
}

func TestAllShortTexts(t *testing.T) {
	for _, k := range rowKinds() {
		read := 0
		for _, s := range textsOf("\x00\x01\x02\x03\x04\x7f\x80\x81\xff", 5) {
			for n := range 7 {
				if wantWords(t, k, s, n) {
					read++
				}
			}
		}
		if read < 20000 {
			t.Errorf("%s: only %d were read", k.name, read)
		}
	}
}

// Every short row over a few numbers, right or not.
func TestAllShortRows(t *testing.T) {
	numbers := []int{math.MinInt, -farTime - 1, -farTime, -1, 0, 1, 2, 3, 200, farTime - 1, farTime, farTime + 1, math.MaxInt}
	rows := [][]int{nil}
	for begin := 0; len(rows[begin]) < 4; begin++ {
		for _, n := range numbers {
			rows = append(rows, append(slices.Clone(rows[begin]), n))
		}
	}
	for _, k := range rowKinds() {
		seen := map[string][]int{}
		for _, l := range rows {
			s := k.show(l)
			if s != k.slowShow(l) {
				t.Fatalf("Show%s(%v) = %q, want %q", k.name, l, s, k.slowShow(l))
			}
			if s == "" {
				continue
			}
			wantRead(t, k, s, len(l), l, len(s))
			// No two rows are shown alike.
			if seen[s] != nil {
				t.Fatalf("Show%s: %v and %v are both %q", k.name, seen[s], l, s)
			}
			seen[s] = l
		}
		if len(seen) < 98 {
			t.Errorf("%s: only %d rows are shown", k.name, len(seen))
		}
	}
}

// someTimes rises by chance, sometimes just not.
func someTimes(r *rand.Rand) []int {
	n := pick(r, 0, 1, r.IntN(1000), r.IntN(farTime), farTime-r.IntN(5000))
	gap := pick(r, 1, 2, 60, r.IntN(100000))
	var l []int
	for range pick(r, 1, 2, 3, r.IntN(62), 60, 61) {
		l = append(l, n)
		switch r.IntN(12) {
		case 0:
			gap = pick(r, 1, 2, 60, 1+r.IntN(1<<30), 1+r.IntN(farTime/2))
		case 1, 2:
			gap = max(gap+r.IntN(5)-2, 1)
		}
		if r.IntN(400) == 0 {
			gap = pick(r, 0, -1)
		}
		n += gap
	}
	return l
}

func someValues(r *rand.Rand) []int {
	n := pick(r, 0, 1, -1, r.IntN(2000)-1000, r.IntN(2*farTime+1)-farTime, farTime, -farTime)
	var l []int
	for range pick(r, 1, 2, 3, r.IntN(62), 60, 61) {
		l = append(l, n)
		switch r.IntN(6) {
		case 0:
			n = r.IntN(2*farTime+1) - farTime
		case 1:
			n = pick(r, farTime, -farTime, 0)
		case 2:
		default:
			n += r.IntN(201) - 100
		}
	}
	return l
}

// someText is what Vars of numbers by chance come to, now with a byte turned, cut or put in.
func someText(r *rand.Rand, s string) string {
	for range r.IntN(3) {
		if s == "" {
			break
		}
		at := r.IntN(len(s))
		switch r.IntN(4) {
		case 0:
			s = withByte(s, at, byte(r.IntN(256)))
		case 1:
			s = s[:at] + s[at+1:]
		case 2:
			s = s[:at] + string([]byte{byte(r.IntN(256))}) + s[at:]
		case 3:
			s = s[:at] + vars(pick(r, 0, 1, 2, r.IntN(1000), r.IntN(4*farTime), r.IntN(impl.MaxVar+1))) + s[at:]
		}
	}
	return s
}

func TestRowsAgainstTheWords(t *testing.T) {
	for seed, k := range rowKinds() {
		r := rand.New(rand.NewPCG(uint64(seed), 7))
		some := []func(r *rand.Rand) []int{someTimes, someValues}[seed]
		shown, not, read, unread := 0, 0, 0, 0
		for range 60000 {
			l := some(r)
			s := k.show(l)
			if s != k.slowShow(l) {
				t.Fatalf("Show%s(%v) = %q, want %q", k.name, l, s, k.slowShow(l))
			}
			if s == "" {
				not++
				continue
			}
			shown++
			wantRead(t, k, s+someText(r, "behind"), len(l), l, len(s))
			if wantWords(t, k, someText(r, s), pick(r, len(l), len(l), len(l)-1, len(l)+1, r.IntN(70)-5)) {
				read++
			} else {
				unread++
			}
		}
		if shown < 5000 || not < 5000 || read < 5000 || unread < 5000 {
			t.Errorf("%s: %d shown, %d not; %d read, %d not", k.name, shown, not, read, unread)
		}
	}
}

func TestRowAnswersNewMemory(t *testing.T) {
	for _, k := range rowKinds() {
		l := append(evenly(5, 9, 20), 77, 78)[:20]
		text := k.show(l)
		if !slices.Equal(l[:22], append(evenly(5, 9, 20), 77, 78)) {
			t.Errorf("Show%s wrote into its argument: %v", k.name, l[:22])
		}
		first, _ := k.read(text, 20)
		second, _ := k.read(text, 20)
		for i := range second[:cap(second)] {
			second[:cap(second)][i] = 99
		}
		if third, _ := k.read(text, 20); !slices.Equal(first, l) || !slices.Equal(third, l) {
			t.Errorf("Read%s: an answer hangs on another one: %v, %v", k.name, first, third)
		}
	}
}
