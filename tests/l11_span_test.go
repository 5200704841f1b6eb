package tests

import (
	"math"
	"math/rand/v2"
	"slices"
	"testing"

	"loop.example/g00360/impl"
)

// Promise 11: Parts of Split of right points are them, each in its bucket. Cover is all buckets of its times.

// farBucket is the one of MaxTime, whose first time is 76 ahead of that.
const farBucket = 10995116277

// slowBucket goes back from a time to the first one of its bucket.
func slowBucket(n int) int {
	if !within(n, 0, farTime) {
		return -1
	}
	for n%100 != 0 {
		n--
	}
	return n / 100
}

// slowCover asks each time of the span for its bucket, one by one.
func slowCover(from, to int) []int {
	if from < 0 || to <= from || to > farTime {
		return nil
	}
	var l []int
	for n := from; n < to && len(l) <= 8; n++ {
		if b := slowBucket(n); !slices.Contains(l, b) {
			l = append(l, b)
		}
	}
	if len(l) > 8 {
		return nil
	}
	return l
}

// slowSplit puts each point down by its bucket, and tells the buckets sorted.
func slowSplit(l []impl.Point) []impl.Part {
	if !slowPointsOk(l) {
		return nil
	}
	in := map[int][]impl.Point{}
	for _, p := range l {
		in[slowBucket(p.T)] = append(in[slowBucket(p.T)], p)
	}
	var parts []impl.Part
	for b, points := range in {
		parts = append(parts, impl.Part{Bucket: b, Points: points})
	}
	slices.SortFunc(parts, func(a, b impl.Part) int { return a.Bucket - b.Bucket })
	return parts
}

func sameParts(a, b []impl.Part) bool {
	return slices.EqualFunc(a, b, func(p, q impl.Part) bool { return p.Bucket == q.Bucket && slices.Equal(p.Points, q.Points) })
}

func copyParts(l []impl.Part) []impl.Part {
	var c []impl.Part
	for _, p := range l {
		c = append(c, impl.Part{Bucket: p.Bucket, Points: slices.Clone(p.Points)})
	}
	return c
}

// partAt is a Part of times and values in turn.
func partAt(bucket int, numbers ...int) impl.Part {
	return impl.Part{Bucket: bucket, Points: pointsAt(numbers...)}
}

func TestBucketConstants(t *testing.T) {
	if impl.Width != 100 || impl.MaxCover != 8 {
		t.Errorf("Width %d, MaxCover %d", impl.Width, impl.MaxCover)
	}
}

func TestBucketOfKnown(t *testing.T) {
	for _, c := range [][2]int{
		{0, 0}, {1, 0}, {50, 0}, {98, 0}, {99, 0},
		{100, 1}, {101, 1}, {199, 1}, {200, 2}, {201, 2}, {299, 2}, {300, 3}, {999, 9}, {1000, 10}, {12345, 123},
		{1 << 31, 21474836}, {1 << 32, 42949672}, {1099511627699, 10995116276}, {1099511627700, 10995116277}, {1099511627701, 10995116277}, {1099511627775, 10995116277},
		{impl.MaxTime, 10995116277}, {impl.MaxTime + 1, -1}, {impl.MaxTime + 2, -1}, {1099511627799, -1}, {1099511627800, -1}, {2 * impl.MaxTime, -1},
		{-1, -1}, {-2, -1}, {-99, -1}, {-100, -1}, {-101, -1}, {-200, -1}, {-201, -1}, {-impl.MaxTime, -1},
		{math.MinInt, -1}, {math.MinInt + 1, -1}, {math.MaxInt, -1}, {math.MaxInt - 1, -1}, {math.MinInt32, -1}, {math.MaxInt32, 21474836},
	} {
		if b := impl.BucketOf(c[0]); b != c[1] || slowBucket(c[0]) != c[1] {
			t.Errorf("BucketOf(%d) = %d, the words say %d, want %d", c[0], b, slowBucket(c[0]), c[1])
		}
	}
}

// Time by time a bucket has just Width of them, the first one from 0 on, the last one up to MaxTime.
func TestBucketOfEachTime(t *testing.T) {
	for bucket := range 50 {
		for n := range 100 {
			if b := impl.BucketOf(bucket*100 + n); b != bucket {
				t.Errorf("BucketOf(%d) = %d", bucket*100+n, b)
			}
		}
	}
	for n := range 1000 {
		if b := impl.BucketOf(-1 - n); b != -1 {
			t.Errorf("BucketOf(%d) = %d", -1-n, b)
		}
		if b := impl.BucketOf(farTime + 1 + n); b != -1 {
			t.Errorf("BucketOf of MaxTime and %d = %d", 1+n, b)
		}
		if b, want := impl.BucketOf(farTime-n), farBucket-(n+23)/100; b != want {
			t.Errorf("BucketOf of MaxTime less %d = %d, want %d", n, b, want)
		}
	}
}

// wantCover tells where Cover answers otherwise than wanted, or than the words say.
func wantCover(t *testing.T, from, to int, want []int) {
	t.Helper()
	if l := impl.Cover(from, to); !slices.Equal(l, want) || !slices.Equal(slowCover(from, to), want) {
		t.Fatalf("Cover(%d, %d) = %v, the words say %v, want %v", from, to, l, slowCover(from, to), want)
	}
}

func TestCoverKnown(t *testing.T) {
	for _, c := range []struct {
		from, to int
		want     []int
	}{
		// In one bucket.
		{0, 1, []int{0}}, {0, 50, []int{0}}, {10, 20, []int{0}}, {99, 100, []int{0}}, {0, 100, []int{0}}, {150, 160, []int{1}}, {100, 200, []int{1}}, {123456, 123457, []int{1234}},
		// From a bucket's first time, one ahead of it, one behind it.
		{100, 101, []int{1}}, {99, 101, []int{0, 1}}, {101, 102, []int{1}}, {99, 102, []int{0, 1}}, {200, 350, []int{2, 3}}, {199, 350, []int{1, 2, 3}}, {201, 350, []int{2, 3}},
		// Up to a bucket's first time, one ahead of it, one behind it.
		{50, 100, []int{0}}, {50, 99, []int{0}}, {50, 101, []int{0, 1}}, {150, 299, []int{1, 2}}, {150, 300, []int{1, 2}}, {150, 301, []int{1, 2, 3}}, {150, 302, []int{1, 2, 3}},
		{0, 99, []int{0}}, {0, 101, []int{0, 1}}, {99, 200, []int{0, 1}}, {99, 201, []int{0, 1, 2}}, {100, 199, []int{1}}, {100, 201, []int{1, 2}}, {200, 300, []int{2}},
		// From -1 and 0.
		{-1, 5, nil}, {-1, 0, nil}, {-1, 1, nil}, {-1, -1, nil}, {-1, farTime, nil}, {-100, 5, nil}, {-5, -2, nil}, {0, 5, []int{0}}, {0, 0, nil}, {0, -1, nil},
		// To at from, one more and one less.
		{5, 5, nil}, {5, 6, []int{0}}, {5, 4, nil}, {100, 100, nil}, {100, 99, nil}, {99, 99, nil}, {99, 98, nil}, {200, 200, nil}, {200, 201, []int{2}}, {200, 199, nil}, {500, 100, nil}, {5, -1, nil}, {5, 0, nil},
		// To at MaxTime and one more.
		{farTime - 1, farTime, []int{farBucket}}, {farTime - 76, farTime, []int{farBucket}}, {farTime - 77, farTime, []int{farBucket - 1, farBucket}}, {farTime - 77, farTime - 76, []int{farBucket - 1}}, {farTime - 77, farTime - 75, []int{farBucket - 1, farBucket}},
		{farTime - 1, farTime + 1, nil}, {farTime - 76, farTime + 1, nil}, {5, farTime + 1, nil}, {farTime, farTime, nil}, {farTime, farTime + 1, nil}, {farTime + 1, farTime + 2, nil}, {farTime + 1, farTime, nil}, {farTime, farTime - 1, nil}, {farTime - 5, farTime - 1, []int{farBucket}},
		// Just MaxCover buckets and one more.
		{0, 800, evenly(0, 1, 8)}, {0, 801, nil}, {0, 799, evenly(0, 1, 8)}, {0, 700, evenly(0, 1, 7)}, {0, 701, evenly(0, 1, 8)}, {1, 800, evenly(0, 1, 8)}, {1, 801, nil},
		{99, 800, evenly(0, 1, 8)}, {99, 801, nil}, {100, 801, evenly(1, 1, 8)}, {100, 900, evenly(1, 1, 8)}, {100, 901, nil}, {99, 900, nil}, {199, 900, evenly(1, 1, 8)}, {199, 801, evenly(1, 1, 8)},
		{farTime - 776, farTime, evenly(farBucket-7, 1, 8)}, {farTime - 777, farTime, nil}, {farTime - 777, farTime - 76, evenly(farBucket-8, 1, 8)}, {farTime - 777, farTime - 75, nil},
		{0, 901, nil}, {0, 1600, nil}, {0, farTime, nil}, {0, farTime - 1, nil}, {1, farTime, nil},
		// The least and the greatest int.
		{math.MinInt, 5, nil}, {math.MinInt, math.MinInt, nil}, {math.MinInt, math.MinInt + 1, nil}, {math.MinInt, math.MaxInt, nil}, {math.MaxInt, math.MinInt, nil}, {math.MaxInt, math.MaxInt, nil}, {math.MaxInt - 1, math.MaxInt, nil},
		{5, math.MaxInt, nil}, {5, math.MinInt, nil}, {0, math.MinInt, nil}, {0, math.MaxInt, nil}, {math.MaxInt, 5, nil}, {math.MinInt, 0, nil}, {math.MaxInt, farTime, nil}, {math.MinInt, farTime, nil}, {farTime - 1, math.MaxInt, nil},
	} {
		wantCover(t, c.from, c.to, c.want)
	}
}

// Ends at, ahead of and behind the first times of buckets, held against each other: within the first ones, and about MaxTime.
func TestCoverOfEachEnd(t *testing.T) {
	var ends []int
	for bucket := range 13 {
		for _, by := range []int{-2, -1, 0, 1, 50} {
			ends = append(ends, bucket*100+by, (farBucket-11+bucket)*100+by)
		}
	}
	ends = append(ends, farTime-1, farTime, farTime+1, farTime+2, math.MinInt, math.MinInt+1, math.MaxInt-1, math.MaxInt)
	covered := map[int]int{}
	for _, from := range ends {
		for _, to := range ends {
			wantCover(t, from, to, slowCover(from, to))
			covered[len(impl.Cover(from, to))]++
		}
	}
	for many := range 9 {
		if covered[many] < 30 {
			t.Errorf("%d have %d buckets", covered[many], many)
		}
	}
	if len(covered) != 9 {
		t.Errorf("some have more than MaxCover: %v", covered)
	}
}

// A span that grows by one time at a time has one bucket more at each first time of one, until there would be too many.
func TestCoverOfAGrowingSpan(t *testing.T) {
	for _, from := range []int{0, 1, 37, 98, 99, 100, 101, 12345, farTime - 900, farTime - 776} {
		var want []int
		for to := from + 1; to <= min(from+1000, farTime); to++ {
			if b := slowBucket(to - 1); !slices.Contains(want, b) {
				want = append(want, b)
			}
			if len(want) <= 8 {
				wantCover(t, from, to, want)
			} else {
				wantCover(t, from, to, nil)
			}
		}
	}
}

// By chance: each time of the span has its bucket in Cover, and each bucket there has a time of the span.
func TestCoverIsAllBuckets(t *testing.T) {
	r := rand.New(rand.NewPCG(11, 1))
	some, none := 0, 0
	for range 5000 {
		from := pick(r, r.IntN(2000), r.IntN(farTime), farTime-r.IntN(1000), 100*r.IntN(farBucket), -r.IntN(200))
		to := from + pick(r, r.IntN(3)-1, r.IntN(100), r.IntN(1000), 100*r.IntN(12), 700+r.IntN(200), r.IntN(farTime))
		l := impl.Cover(from, to)
		wantCover(t, from, to, slowCover(from, to))
		if len(l) == 0 {
			none++
			continue
		}
		some++
		met := map[int]int{}
		for n := from; n < to; n++ {
			met[impl.BucketOf(n)]++
		}
		for i, b := range l {
			if met[b] == 0 || i > 0 && b <= l[i-1] {
				t.Fatalf("Cover(%d, %d) = %v", from, to, l)
			}
		}
		if len(met) != len(l) {
			t.Fatalf("Cover(%d, %d) = %v, of %d buckets", from, to, l, len(met))
		}
	}
	if some < 1000 || none < 1000 {
		t.Errorf("%d have buckets, %d none", some, none)
	}
}

// wantSplit tells where Split answers otherwise than wanted, or than the words say.
func wantSplit(t *testing.T, name string, l []impl.Point, want []impl.Part) {
	t.Helper()
	if parts := impl.Split(l); !sameParts(parts, want) || !sameParts(slowSplit(l), want) {
		t.Fatalf("%s: Split(%s) = %s, the words say %s, want %s", name, brief(l), brief(parts), brief(slowSplit(l)), brief(want))
	}
}

// wantTogether wants the Parts of right points to be them, in order, each not empty and in its bucket, buckets rising.
func wantTogether(t *testing.T, l []impl.Point) {
	t.Helper()
	var together []impl.Point
	ahead := -1
	for _, part := range impl.Split(l) {
		if len(part.Points) == 0 || part.Bucket <= ahead {
			t.Fatalf("Split(%s) has an empty Part, or one that does not rise: %s", brief(l), brief(part))
		}
		for _, p := range part.Points {
			if p.T < part.Bucket*100 || p.T > part.Bucket*100+99 || impl.BucketOf(p.T) != part.Bucket {
				t.Fatalf("Split(%s) has %v in bucket %d", brief(l), p, part.Bucket)
			}
		}
		together = append(together, part.Points...)
		ahead = part.Bucket
	}
	if !slices.Equal(together, l) {
		t.Fatalf("the Parts of %s are together %s", brief(l), brief(together))
	}
}

func TestSplitKnown(t *testing.T) {
	for _, c := range []struct {
		name string
		l    []impl.Point
		want []impl.Part
	}{
		{"nil", nil, nil},
		{"no point", []impl.Point{}, nil},
		{"the zero Point", []impl.Point{{}}, []impl.Part{partAt(0, 0, 0)}},
		{"one point", pointsAt(250, -7), []impl.Part{partAt(2, 250, -7)}},
		{"one bucket", pointsAt(5, 1, 50, 2, 99, 3), []impl.Part{partAt(0, 5, 1, 50, 2, 99, 3)}},
		{"one later bucket", pointsAt(300, 1, 301, 1, 399, 1), []impl.Part{partAt(3, 300, 1, 301, 1, 399, 1)}},
		{"the last time of a bucket", pointsAt(99, 4), []impl.Part{partAt(0, 99, 4)}},
		{"the first time of a bucket", pointsAt(100, 4), []impl.Part{partAt(1, 100, 4)}},
		{"the last and the next first", pointsAt(99, 4, 100, 5), []impl.Part{partAt(0, 99, 4), partAt(1, 100, 5)}},
		{"the last two and the next first two", pointsAt(198, 4, 199, 5, 200, 6, 201, 7), []impl.Part{partAt(1, 198, 4, 199, 5), partAt(2, 200, 6, 201, 7)}},
		{"the first and the last of one", pointsAt(200, 4, 299, 4), []impl.Part{partAt(2, 200, 4, 299, 4)}},
		{"just Width apart", pointsAt(50, 1, 150, 2, 250, 3), []impl.Part{partAt(0, 50, 1), partAt(1, 150, 2), partAt(2, 250, 3)}},
		{"apart", pointsAt(5, 1, 99, 2, 350, 3, 1000, 4, 1099, 5), []impl.Part{partAt(0, 5, 1, 99, 2), partAt(3, 350, 3), partAt(10, 1000, 4, 1099, 5)}},
		{"apart by more than MaxCover", pointsAt(5, 1, 905, 2, 5000, 3), []impl.Part{partAt(0, 5, 1), partAt(9, 905, 2), partAt(50, 5000, 3)}},
		{"more than MaxCover buckets", pointsEvery(7, 100, 9, 3), []impl.Part{partAt(0, 7, 3), partAt(1, 107, 3), partAt(2, 207, 3), partAt(3, 307, 3), partAt(4, 407, 3), partAt(5, 507, 3), partAt(6, 607, 3), partAt(7, 707, 3), partAt(8, 807, 3)}},
		{"MaxTime", pointsAt(farTime, 9), []impl.Part{partAt(farBucket, farTime, 9)}},
		{"up to MaxTime", pointsAt(farTime-77, 6, farTime-76, 7, farTime-1, 8, farTime, 9), []impl.Part{partAt(farBucket-1, farTime-77, 6), partAt(farBucket, farTime-76, 7, farTime-1, 8, farTime, 9)}},
		{"as far apart as may be", pointsAt(0, farTime, farTime, -farTime), []impl.Part{partAt(0, 0, farTime), partAt(farBucket, farTime, -farTime)}},
		{"one value", pointsAt(10, 5, 20, 5, 110, 5), []impl.Part{partAt(0, 10, 5, 20, 5), partAt(1, 110, 5)}},
	} {
		wantSplit(t, c.name, c.l, c.want)
		wantTogether(t, c.l)
	}
}

// MaxPoints points in one bucket, in two, and in as many as there are of them; and one point more.
func TestSplitOfMaxPoints(t *testing.T) {
	for _, step := range []int{1, 2, 10, 99, 100, 101, 1000, 1 << 30} {
		for _, first := range []int{0, 39, 40, 41, 99, farTime - 59*step} {
			for _, many := range []int{59, 60} {
				l := pointsEvery(first, step, many, -5)
				wantSplit(t, "many", l, slowSplit(l))
				wantTogether(t, l)
			}
			wantSplit(t, "one more", pointsEvery(first, step, 61, -5), nil)
		}
	}
	l := pointsEvery(0, 1, 60, 5)
	wantSplit(t, "one bucket", l, []impl.Part{{Bucket: 0, Points: l}})
	l = pointsEvery(40, 1, 60, 5)
	wantSplit(t, "one bucket to its end", l, []impl.Part{{Bucket: 0, Points: l}})
	l = pointsEvery(41, 1, 60, 5)
	wantSplit(t, "one in the next bucket", l, []impl.Part{{Bucket: 0, Points: l[:59]}, {Bucket: 1, Points: l[59:]}})
	if parts := impl.Split(pointsEvery(99, 100, 60, 5)); len(parts) != 60 || parts[0].Bucket != 0 || parts[59].Bucket != 59 || len(parts[59].Points) != 1 {
		t.Errorf("60 buckets: %s", brief(parts))
	}
}

func TestSplitOfRightPoints(t *testing.T) {
	for _, l := range rightPoints() {
		wantSplit(t, "right", l, slowSplit(l))
		wantTogether(t, l)
	}
}

func TestSplitOfPointsThatAreNotRight(t *testing.T) {
	for name, l := range map[string][]impl.Point{
		"one more than MaxPoints":           pointsEvery(0, 1, 61, 5),
		"far more":                          pointsEvery(0, 1, 100000, 5),
		"T below 0":                         pointsAt(-1, 0),
		"T below 0 ahead of a right one":    pointsAt(-1, 0, 5, 0),
		"T above MaxTime":                   pointsAt(farTime+1, 0),
		"T above MaxTime, of one bucket":    pointsAt(farTime, 0, farTime+1, 0),
		"the least T":                       pointsAt(math.MinInt, 0),
		"the greatest T":                    pointsAt(5, 0, math.MaxInt, 0),
		"T stays":                           pointsAt(5, 0, 5, 1),
		"a point twice":                     pointsAt(5, 1, 5, 1),
		"T falls in a bucket":               pointsAt(6, 0, 5, 1),
		"T falls into the bucket ahead":     pointsAt(100, 0, 99, 1),
		"T falls back to the first":         pointsAt(5, 0, 105, 0, 6, 0),
		"T stays in the last bucket":        pointsAt(5, 0, 105, 0, 105, 0),
		"V below -MaxValue":                 pointsAt(5, -farTime-1),
		"V above MaxValue":                  pointsAt(5, farTime+1),
		"the least V":                       pointsAt(5, 0, 105, math.MinInt),
		"the greatest V":                    pointsAt(5, math.MaxInt, 105, 0),
		"the last V in a bucket of its own": pointsAt(5, 0, 105, 0, 205, farTime+1),
	} {
		wantSplit(t, name, l, nil)
	}
	for _, l := range wrongPoints() {
		wantSplit(t, "not right", l, nil)
	}
}

// Every row of at most four points about the ends of the first buckets and of the last one, right or not.
func TestSplitOfAllFewPoints(t *testing.T) {
	rows := [][]impl.Point{nil}
	for begin := 0; len(rows[begin]) < 4; begin++ {
		for _, n := range []int{-1, 0, 99, 100, 199, 200, farTime - 77, farTime - 76, farTime, farTime + 1} {
			rows = append(rows, append(slices.Clone(rows[begin]), impl.Point{T: n, V: len(rows)}))
		}
	}
	right := 0
	for _, l := range rows {
		wantSplit(t, "few", l, slowSplit(l))
		if slowPointsOk(l) {
			right++
			wantTogether(t, l)
		}
	}
	// Of eight times none, one, two, three or four.
	if right != 1+8+28+56+70 {
		t.Errorf("%d are right", right)
	}
}

// someSpread are points by chance, about as far apart as a bucket is wide, now and then not right.
func someSpread(r *rand.Rand) []impl.Point {
	n := pick(r, 0, r.IntN(300), 99, 100, r.IntN(farTime), farTime-r.IntN(3000))
	var l []impl.Point
	for range pick(r, 0, 1, 2, r.IntN(20), r.IntN(62), 60, 61) {
		l = append(l, impl.Point{T: n, V: r.IntN(2001) - 1000})
		// To the end of the bucket, past it, or some way on.
		n += pick(r, 1, max(99-n%100, 1), 100-n%100, 99, 100, 101, 1+r.IntN(20), 1+r.IntN(20), 1+r.IntN(20), 1+r.IntN(400))
		switch r.IntN(300) {
		case 0:
			n += r.IntN(farTime)
		case 1:
			n -= 1 + r.IntN(300)
		}
	}
	return l
}

func TestSplitAgainstTheWords(t *testing.T) {
	r := rand.New(rand.NewPCG(11, 2))
	right, not, parted := 0, 0, 0
	for range 30000 {
		l := pick(r, someSpread(r), someSpread(r), somePoints(r))
		wantSplit(t, "by chance", l, slowSplit(l))
		if !slowPointsOk(l) {
			not++
			continue
		}
		right++
		wantTogether(t, l)
		if parts := impl.Split(l); len(parts) > 1 && len(parts) < len(l) {
			parted++
		}
	}
	if right < 5000 || not < 3000 || parted < 5000 {
		t.Errorf("%d right, %d not; %d have several Parts, one of them with several points", right, not, parted)
	}
}

// The Parts of points within a Cover have buckets of it, and each is what Slice cuts at the ends of its bucket.
func TestSplitWithinCover(t *testing.T) {
	r := rand.New(rand.NewPCG(11, 3))
	met := 0
	for range 5000 {
		l := someSpread(r)
		if len(l) == 0 || !slowPointsOk(l) {
			continue
		}
		cover := impl.Cover(l[0].T, l[len(l)-1].T+1)
		for _, part := range impl.Split(l) {
			if cut := impl.Slice(l, part.Bucket*100, part.Bucket*100+100); !slices.Equal(cut, part.Points) {
				t.Fatalf("Split(%s) has in bucket %d %s, Slice %s", brief(l), part.Bucket, brief(part.Points), brief(cut))
			}
			if len(cover) > 0 && !slices.Contains(cover, part.Bucket) {
				t.Fatalf("Split(%s) has bucket %d, Cover %v", brief(l), part.Bucket, cover)
			}
		}
		if len(cover) > 0 {
			met++
		}
	}
	if met < 500 {
		t.Errorf("%d have a Cover", met)
	}
}

// spoilParts writes over Parts and their points, and over the room behind them.
func spoilParts(l []impl.Part) {
	for _, part := range l {
		spoil(part.Points)
	}
	l = l[:cap(l)]
	for i := range l {
		l[i] = impl.Part{Bucket: -99}
	}
}

func TestSplitAnswersNewMemory(t *testing.T) {
	rows := append(rightPoints(), nil, pointsEvery(0, 1, 60, 7), pointsEvery(41, 1, 60, 7), pointsEvery(0, 30, 60, 7), pointsEvery(0, 100, 60, 7), pointsEvery(0, 1, 61, 7), pointsAt(5, 1, 5, 1), pointsAt(5, 1, 99, 2, 100, 3, 350, 4))
	for _, x := range rows {
		l := sparePoints(x)
		parts, again := impl.Split(l), impl.Split(l)
		kept := copyParts(parts)
		spoilParts(again)
		if !slices.Equal(roomOf(l), roomOf(sparePoints(x))) {
			t.Fatalf("Split wrote into its argument, or its answer is part of it: %s", brief(roomOf(l)))
		}
		spoil(l)
		if !sameParts(parts, kept) || !sameParts(parts, slowSplit(x)) {
			t.Fatalf("Split(%s): the answer hangs on its argument, or on another answer: %s", brief(x), brief(parts))
		}
		for i := range parts {
			spoil(parts[i].Points)
			parts[i] = kept[i]
			if !sameParts(parts, kept) {
				t.Fatalf("Split(%s): the points of Part %d hang on those of another one", brief(x), i)
			}
		}
	}
}

func TestCoverAnswersNewMemory(t *testing.T) {
	for _, c := range [][2]int{{0, 1}, {99, 101}, {0, 800}, {150, 301}, {farTime - 776, farTime}, {0, 801}} {
		first, second := impl.Cover(c[0], c[1]), impl.Cover(c[0], c[1])
		second = second[:cap(second)]
		for i := range second {
			second[i] = -99
		}
		if !slices.Equal(first, slowCover(c[0], c[1])) {
			t.Errorf("Cover(%d, %d): an answer hangs on another one: %v", c[0], c[1], first)
		}
		wantCover(t, c[0], c[1], slowCover(c[0], c[1]))
	}
}
