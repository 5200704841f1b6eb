package tests

import (
	"maps"
	"math"
	"math/rand/v2"
	"slices"
	"strings"
	"testing"

	"loop.example/g00360/impl"
)

// Promise 10: Of an engine that Puts, Flushes, Packs and Raises of the empty one lead to, Query tells of each key and time the last value that was put (with EgOk), unless it is below Floor. Flush and Pack change nothing that is told; a refusal changes nothing; Raise takes away just what is below.

// fileOf is of right series, one at least.
func fileOf(l ...impl.Series) string {
	text := slowFileText(l)
	if text == "" {
		panic("these are no series of a file")
	}
	return text
}

// keysFile has one point at this time for each key.
func keysFile(n int, keys ...string) string {
	return fileOf(seriesOf(pointsAt(n, 1), keys...)...)
}

func copyEngine(e impl.Engine) impl.Engine {
	return impl.Engine{Floor: e.Floor, Cache: copySeries(e.Cache), Files: slices.Clone(e.Files)}
}

func sameEngine(a, b impl.Engine) bool {
	return a.Floor == b.Floor && sameSeries(a.Cache, b.Cache) && slices.Equal(a.Files, b.Files)
}

func pointsTogether(l []impl.Series) int {
	many := 0
	for _, s := range l {
		many += len(s.Points)
	}
	return many
}

// byTime is the points of a table of values by their times, without those below the floor.
func byTime(at map[int]int, floor int) []impl.Point {
	var l []impl.Point
	for _, n := range slices.Sorted(maps.Keys(at)) {
		if n >= floor {
			l = append(l, impl.Point{T: n, V: at[n]})
		}
	}
	return l
}

// slowTable writes each value down by its key and time: file by file, those of the cache over them.
func slowTable(e impl.Engine) map[string]map[int]int {
	var all []impl.Series
	for _, text := range e.Files {
		l, _ := slowReadFile(text)
		all = append(all, l...)
	}
	table := map[string]map[int]int{}
	for _, s := range append(all, e.Cache...) {
		if table[s.Key] == nil {
			table[s.Key] = map[int]int{}
		}
		for _, p := range s.Points {
			table[s.Key][p.T] = p.V
		}
	}
	return table
}

func slowAll(e impl.Engine) []impl.Series {
	table := slowTable(e)
	var l []impl.Series
	for _, key := range slices.Sorted(maps.Keys(table)) {
		if points := byTime(table[key], e.Floor); len(points) > 0 {
			l = append(l, impl.Series{Key: key, Points: points})
		}
	}
	return l
}

func slowTooMuch(all []impl.Series) bool {
	return len(all) > 5 || slices.ContainsFunc(all, func(s impl.Series) bool { return len(s.Points) > 60 })
}

func slowEngineOk(e impl.Engine) bool {
	if !within(e.Floor, 0, farTime) || !slowSeriesOk(e.Cache) || pointsTogether(e.Cache) > 40 || len(e.Files) > 4 {
		return false
	}
	for _, s := range e.Cache {
		if slices.ContainsFunc(s.Points, func(p impl.Point) bool { return p.T < e.Floor }) {
			return false
		}
	}
	for _, text := range e.Files {
		if _, ok := slowReadFile(text); !ok {
			return false
		}
	}
	return !slowTooMuch(slowAll(e))
}

func slowPlain(e impl.Engine) []impl.Series {
	if !slowEngineOk(e) {
		return nil
	}
	return slowAll(e)
}

func pointsOfKey(l []impl.Series, key string) []impl.Point {
	for _, s := range l {
		if s.Key == key {
			return s.Points
		}
	}
	return nil
}

func slowQuery(e impl.Engine, key string, from, to int) []impl.Point {
	return slowSlice(pointsOfKey(slowPlain(e), key), from, to)
}

// slowOneFile has no file where no key has a point.
func slowOneFile(e impl.Engine) []string {
	if all := slowAll(e); len(all) > 0 {
		return []string{slowFileText(all)}
	}
	return nil
}

// slowPutAway flushes an engine that is right but for a cache with too many points.
func slowPutAway(e impl.Engine) impl.Engine {
	next := copyEngine(e)
	if len(e.Cache) == 0 {
		return next
	}
	next.Files, next.Cache = append(next.Files, slowFileText(e.Cache)), nil
	if len(next.Files) > 4 {
		next.Files = slowOneFile(e)
	}
	return next
}

func slowFlush(e impl.Engine) impl.Engine {
	if !slowEngineOk(e) {
		return impl.Engine{}
	}
	return slowPutAway(e)
}

func slowPack(e impl.Engine) impl.Engine {
	if !slowEngineOk(e) {
		return impl.Engine{}
	}
	next := slowPutAway(e)
	next.Files = slowOneFile(next)
	return next
}

func slowPut(e impl.Engine, key string, l []impl.Point) (impl.Engine, int) {
	if !slowEngineOk(e) {
		return impl.Engine{}, 1
	}
	if !slowKey(key) || !slowPointsOk(l) || len(l) == 0 {
		return copyEngine(e), 1
	}
	if slices.ContainsFunc(l, func(p impl.Point) bool { return p.T < e.Floor }) {
		return copyEngine(e), 2
	}
	next := copyEngine(e)
	next.Cache = slowAll(impl.Engine{Cache: append(copySeries(e.Cache), impl.Series{Key: key, Points: l})})
	if slowTooMuch(slowAll(next)) {
		return copyEngine(e), 3
	}
	if pointsTogether(next.Cache) > 40 {
		next = slowPutAway(next)
	}
	return next, 0
}

// slowRaise names a time that raises nothing ahead of an engine that is not right, as the chapter does.
func slowRaise(e impl.Engine, n int) impl.Engine {
	if n <= e.Floor || n > farTime {
		return copyEngine(e)
	}
	if !slowEngineOk(e) {
		return impl.Engine{}
	}
	next := copyEngine(e)
	next.Floor, next.Cache = n, slowAll(impl.Engine{Floor: n, Cache: e.Cache})
	return next
}

// An engineCall changes an engine: as the program does it, and as the words say.
type engineCall struct {
	name string
	do   func(e impl.Engine) (impl.Engine, int)
	slow func(e impl.Engine) (impl.Engine, int)
}

// uncoded is a call that answers no code.
func uncoded(name string, do, slow func(e impl.Engine) impl.Engine) engineCall {
	return engineCall{name,
		func(e impl.Engine) (impl.Engine, int) { return do(e), 0 },
		func(e impl.Engine) (impl.Engine, int) { return slow(e), 0 }}
}

func flushCall() engineCall {
	return uncoded("Flush", impl.Flush, slowFlush)
}

func packCall() engineCall {
	return uncoded("Pack", impl.Pack, slowPack)
}

func raiseCall(n int) engineCall {
	return uncoded("Raise to "+impl.Dec(n),
		func(e impl.Engine) impl.Engine { return impl.Raise(e, n) },
		func(e impl.Engine) impl.Engine { return slowRaise(e, n) })
}

func putCall(key string, l []impl.Point) engineCall {
	return engineCall{"Put of " + key + " " + brief(l),
		func(e impl.Engine) (impl.Engine, int) { return impl.Put(e, key, l) },
		func(e impl.Engine) (impl.Engine, int) { return slowPut(e, key, l) }}
}

// wantEngine tells where the call answers otherwise than wanted, where the words say something else, or where it writes into the engine that it is handed; a right engine must stay right.
func wantEngine(t *testing.T, name string, c engineCall, e, want impl.Engine, wantCode int) impl.Engine {
	t.Helper()
	ahead := copyEngine(e)
	got, code := c.do(e)
	if !sameEngine(got, want) || code != wantCode {
		t.Fatalf("%s: %s of %s\n= %s, %d\nwant %s, %d", name, c.name, brief(ahead), brief(got), code, brief(want), wantCode)
	}
	if said, saidCode := c.slow(copyEngine(e)); !sameEngine(said, want) || saidCode != wantCode {
		t.Fatalf("%s: %s of %s\nby the words = %s, %d\nwant %s, %d", name, c.name, brief(ahead), brief(said), saidCode, brief(want), wantCode)
	}
	if !sameEngine(e, ahead) {
		t.Fatalf("%s: %s of %s made it %s", name, c.name, brief(ahead), brief(e))
	}
	if slowEngineOk(e) && !impl.EngineOk(got) {
		t.Fatalf("%s: %s of %s\n= %s, that is not right", name, c.name, brief(ahead), brief(got))
	}
	return got
}

// wantAsSaid wants what the words say.
func wantAsSaid(t *testing.T, name string, c engineCall, e impl.Engine) (impl.Engine, int) {
	t.Helper()
	want, code := c.slow(copyEngine(e))
	return wantEngine(t, name, c, e, want, code), code
}

// wantTold tells where Query or Plain answer otherwise than this.
func wantTold(t *testing.T, name string, e impl.Engine, all []impl.Series) {
	t.Helper()
	if got := impl.Plain(e); !sameSeries(got, all) {
		t.Fatalf("%s: Plain of %s\n= %s\nwant %s", name, brief(e), brief(got), brief(all))
	}
	for _, key := range []string{"a", "b", "c", "d", "e", "f", "g", "cpu", "", "Cpu"} {
		want := pointsOfKey(all, key)
		if got := impl.Query(e, key, math.MinInt, math.MaxInt); !slices.Equal(got, want) {
			t.Fatalf("%s: Query of %q in %s\n= %s\nwant %s", name, key, brief(e), brief(got), brief(want))
		}
	}
}

func TestEngineConstants(t *testing.T) {
	if impl.MaxCache != 40 || impl.MaxFiles != 4 {
		t.Errorf("MaxCache %d, MaxFiles %d", impl.MaxCache, impl.MaxFiles)
	}
	if impl.EgOk != 0 || impl.EgBad != 1 || impl.EgLate != 2 || impl.EgFull != 3 {
		t.Errorf("EgOk %d, EgBad %d, EgLate %d, EgFull %d", impl.EgOk, impl.EgBad, impl.EgLate, impl.EgFull)
	}
}

// richEngine is right: a has points in both files and the cache, some of one time; b in the files, c in the cache, d below the floor alone, e in one file.
func richEngine() impl.Engine {
	return impl.Engine{
		Floor: 20,
		Cache: []impl.Series{oneSeries("a", 30, 33, 50, 35), oneSeries("c", 20, 1)},
		Files: []string{
			fileOf(oneSeries("a", 10, 11, 20, 12, 30, 13, 40, 14), oneSeries("b", 19, 1, 20, 2), oneSeries("d", 5, 1, 19, 2), oneSeries("e", 18, 4, 25, 5)),
			fileOf(oneSeries("a", 15, 21, 20, 22, 30, 23), oneSeries("b", 21, 3)),
		},
	}
}

func richTold() []impl.Series {
	return []impl.Series{oneSeries("a", 20, 22, 30, 33, 40, 14, 50, 35), oneSeries("b", 20, 2, 21, 3), oneSeries("c", 20, 1), oneSeries("e", 25, 5)}
}

// fullEngine has MaxFiles files and MaxCache points in the cache: a has MaxPoints, b 20, in files c, d and e, and beside them five keys below the floor alone.
func fullEngine() impl.Engine {
	return impl.Engine{
		Floor: 100,
		Cache: []impl.Series{{Key: "a", Points: pointsEvery(140, 1, 20, 7)}, {Key: "b", Points: pointsEvery(100, 3, 20, 8)}},
		Files: []string{
			fileOf(seriesOf(pointsEvery(40, 1, 60, 1), "a", "v", "w", "x", "y")...),
			fileOf(seriesOf(pointsEvery(98, 1, 22, 2), "a", "c", "z")[:2]...),
			fileOf(impl.Series{Key: "a", Points: pointsEvery(110, 1, 30, 3)}, oneSeries("d", 0, 1, 100, 2), oneSeries("e", 99, 1, 101, 2), oneSeries("z", 99, 1)),
			fileOf(oneSeries("a", 99, 4, 100, 4, 139, 4), oneSeries("c", 119, 4)),
		},
	}
}

func fullTold() []impl.Series {
	a := slices.Concat(pointsAt(100, 4), pointsEvery(101, 1, 9, 2), pointsEvery(110, 1, 29, 3), pointsAt(139, 4), pointsEvery(140, 1, 20, 7))
	return []impl.Series{{Key: "a", Points: a}, {Key: "b", Points: pointsEvery(100, 3, 20, 8)}, {Key: "c", Points: append(pointsEvery(100, 1, 19, 2), pointsAt(119, 4)...)}, oneSeries("d", 100, 2), oneSeries("e", 101, 2)}
}

func TestWhatRichEnginesTell(t *testing.T) {
	for _, c := range []struct {
		name string
		e    impl.Engine
		all  []impl.Series
	}{{"rich", richEngine(), richTold()}, {"full", fullEngine(), fullTold()}, {"zero", impl.Engine{}, nil}} {
		if !impl.EngineOk(c.e) || !slowEngineOk(c.e) {
			t.Fatalf("%s: EngineOk = %v, the words say %v", c.name, impl.EngineOk(c.e), slowEngineOk(c.e))
		}
		wantTold(t, c.name, c.e, c.all)
		if !sameSeries(slowPlain(c.e), c.all) {
			t.Fatalf("%s: the words tell %s", c.name, brief(slowPlain(c.e)))
		}
	}
}

// An engineCase is an engine and whether it is right.
type engineCase struct {
	name string
	e    impl.Engine
	want bool
}

func floorCases() []engineCase {
	below := []string{keysFile(5, "a")}
	at := func(n int) []impl.Series { return []impl.Series{oneSeries("a", n, 1)} }
	later := func(n int) []impl.Series { return []impl.Series{oneSeries("a", 500, 1), oneSeries("b", n, 1, 600, 2)} }
	return []engineCase{
		{"the zero Engine", impl.Engine{}, true},
		{"empty lists", impl.Engine{Cache: []impl.Series{}, Files: []string{}}, true},
		{"Floor -1", impl.Engine{Floor: -1}, false},
		{"Floor 0", impl.Engine{Floor: 0}, true},
		{"Floor 1", impl.Engine{Floor: 1}, true},
		{"Floor MaxTime - 1", impl.Engine{Floor: farTime - 1}, true},
		{"Floor MaxTime", impl.Engine{Floor: farTime}, true},
		{"Floor MaxTime + 1", impl.Engine{Floor: farTime + 1}, false},
		{"the least Floor", impl.Engine{Floor: math.MinInt}, false},
		{"the greatest Floor", impl.Engine{Floor: math.MaxInt}, false},
		{"Floor -1 with a file", impl.Engine{Floor: -1, Files: below}, false},
		{"Floor MaxTime + 1 with a file", impl.Engine{Floor: farTime + 1, Files: below}, false},
		{"Floor MaxTime with a file", impl.Engine{Floor: farTime, Files: below}, true},
		{"Floor MaxTime with a point there", impl.Engine{Floor: farTime, Cache: at(farTime)}, true},
		{"Floor MaxTime with a point just below", impl.Engine{Floor: farTime, Cache: at(farTime - 1)}, false},
		{"a T just below Floor", impl.Engine{Floor: 100, Cache: at(99)}, false},
		{"a T at Floor", impl.Engine{Floor: 100, Cache: at(100)}, true},
		{"a T just above Floor", impl.Engine{Floor: 100, Cache: at(101)}, true},
		{"T 0 at Floor 0", impl.Engine{Cache: at(0)}, true},
		{"T 0 at Floor 1", impl.Engine{Floor: 1, Cache: at(0)}, false},
		{"a T of the second key just below Floor", impl.Engine{Floor: 100, Cache: later(99)}, false},
		{"a T of the second key at Floor", impl.Engine{Floor: 100, Cache: later(100)}, true},
		{"a T just below Floor that a file has, too", impl.Engine{Floor: 6, Cache: at(5), Files: below}, false},
	}
}

// cacheOf has so many points of each key, a, b and so on.
func cacheOf(many ...int) []impl.Series {
	var l []impl.Series
	for i, n := range many {
		l = append(l, impl.Series{Key: string([]byte{byte('a' + i)}), Points: pointsEvery(10*i, 1, n, i)})
	}
	return l
}

func cacheCases() []engineCase {
	forty := pointsEvery(0, 1, 40, 9)
	file := []string{fileOf(impl.Series{Key: "a", Points: pointsEvery(0, 1, 60, 1)}, impl.Series{Key: "b", Points: pointsEvery(0, 1, 60, 1)})}
	l := []engineCase{
		{"39 points", impl.Engine{Cache: cacheOf(39)}, true},
		{"MaxCache points", impl.Engine{Cache: cacheOf(40)}, true},
		{"one more", impl.Engine{Cache: cacheOf(41)}, false},
		{"MaxPoints in the cache", impl.Engine{Cache: cacheOf(60)}, false},
		{"MaxCache points of two keys", impl.Engine{Cache: cacheOf(20, 20)}, true},
		{"one more of the first key", impl.Engine{Cache: cacheOf(21, 20)}, false},
		{"one more of the second key", impl.Engine{Cache: cacheOf(20, 21)}, false},
		{"one and 39", impl.Engine{Cache: cacheOf(1, 39)}, true},
		{"one and 40", impl.Engine{Cache: cacheOf(1, 40)}, false},
		{"40 and one", impl.Engine{Cache: cacheOf(40, 1)}, false},
		{"MaxCache points of five keys", impl.Engine{Cache: cacheOf(8, 8, 8, 8, 8)}, true},
		{"one more of the last key", impl.Engine{Cache: cacheOf(8, 8, 8, 8, 9)}, false},
		{"one more of a middle key", impl.Engine{Cache: cacheOf(8, 8, 9, 8, 8)}, false},
		{"MaxCache points that a file has, too", impl.Engine{Cache: []impl.Series{{Key: "a", Points: forty}}, Files: file}, true},
		{"one more that a file has, too", impl.Engine{Cache: []impl.Series{{Key: "a", Points: forty}, oneSeries("b", 0, 0)}, Files: file}, false},
	}
	for name, cache := range wrongSeries() {
		l = append(l, engineCase{"a Cache that is not right: " + name, impl.Engine{Cache: cache}, false})
		l = append(l, engineCase{"a Cache that is not right, with a file: " + name, impl.Engine{Cache: cache, Files: file}, false})
	}
	return l
}

func fileCases() []engineCase {
	one, two := keysFile(5, "a"), keysFile(6, "b")
	l := []engineCase{
		{"a file", impl.Engine{Files: []string{one}}, true},
		{"three files", impl.Engine{Files: []string{one, two, one}}, true},
		{"MaxFiles files", impl.Engine{Files: []string{one, two, one, two}}, true},
		{"one more", impl.Engine{Files: []string{one, two, one, two, one}}, false},
		{"one file MaxFiles times", impl.Engine{Files: slices.Repeat([]string{one}, 4)}, true},
		{"one file once more", impl.Engine{Files: slices.Repeat([]string{one}, 5)}, false},
		{"MaxFiles files below Floor", impl.Engine{Floor: 7, Files: []string{one, two, one, two}}, true},
		{"one more below Floor", impl.Engine{Floor: 7, Files: []string{one, two, one, two, one}}, false},
		{"far more files", impl.Engine{Files: slices.Repeat([]string{one}, 100000)}, false},
		{"a file of MaxSeries keys with MaxPoints", impl.Engine{Files: []string{fileOf(seriesOf(pointsEvery(farTime-59, 1, 60, farTime), "a", "b", "c", "d", "zzzzzzzz")...)}}, true},
	}
	for name, text := range map[string]string{
		"the empty text": "", "four bytes": "tsb1", "a word": "file", "cut off": one[:len(one)-1], "a byte more": one + "\x00", "two in one": one + two,
		"the first byte turned": withByte(one, 0, 'T'), "the last byte turned": withByte(one, len(one)-1, one[len(one)-1]^1), "a middle byte turned": withByte(one, len(one)/2, one[len(one)/2]^128),
		"no series": rawFile{start: "tsb1", begin: 4}.text(), "a key that is none": rawFileOf(seriesOf(pointsAt(1, 1), "Cpu")).text(), "six keys": rawFileOf(seriesOf(pointsAt(1, 1), "a", "b", "c", "d", "e", "f")).text(),
		"61 points": rawFileOf(seriesOf(pointsEvery(0, 1, 61, 0), "a")).text(), "keys that fall": rawFileOf(seriesOf(pointsAt(1, 1), "b", "a")).text(),
	} {
		for _, floor := range []int{0, 7, farTime} {
			l = append(l,
				engineCase{"a file alone that is none: " + name, impl.Engine{Floor: floor, Files: []string{text}}, false},
				engineCase{"the first file is none: " + name, impl.Engine{Floor: floor, Files: []string{text, one, two}}, false},
				engineCase{"a middle file is none: " + name, impl.Engine{Floor: floor, Files: []string{one, text, two}}, false},
				engineCase{"the last file is none: " + name, impl.Engine{Floor: floor, Files: []string{one, two, one, text}}, false})
		}
	}
	return l
}

func manyKeysCases() []engineCase {
	three, rest := keysFile(10, "a", "b", "c"), keysFile(20, "d", "e")
	five := keysFile(10, "a", "b", "c", "d", "e")
	at := func(n int, keys ...string) []impl.Series { return seriesOf(pointsAt(n, 2), keys...) }
	low := []string{keysFile(1, "a", "b", "c", "d", "e"), keysFile(2, "f", "g", "h", "i", "j"), keysFile(3, "k", "l", "m", "n", "o"), keysFile(4, "p", "q", "r", "s", "t")}
	return []engineCase{
		{"MaxSeries keys in the cache", impl.Engine{Cache: at(5, "a", "b", "c", "d", "e")}, true},
		{"MaxSeries keys in a file", impl.Engine{Files: []string{five}}, true},
		{"the same in two files and the cache", impl.Engine{Files: []string{five, five}, Cache: at(30, "a", "b", "c", "d", "e")}, true},
		{"one more in the cache", impl.Engine{Files: []string{five}, Cache: at(30, "f")}, false},
		{"one more in the cache, ahead of the others", impl.Engine{Files: []string{keysFile(10, "b", "c", "d", "e", "f")}, Cache: at(30, "a")}, false},
		{"one more in a second file", impl.Engine{Files: []string{five, keysFile(10, "f")}}, false},
		{"one more in a first file", impl.Engine{Files: []string{keysFile(10, "f"), five}}, false},
		{"three and two", impl.Engine{Files: []string{three, rest}}, true},
		{"three, two and one of them in the cache", impl.Engine{Files: []string{three, rest}, Cache: at(30, "c")}, true},
		{"three, two and one", impl.Engine{Files: []string{three, rest}, Cache: at(30, "f")}, false},
		{"three and two in the cache", impl.Engine{Files: []string{three}, Cache: at(30, "d", "e")}, true},
		{"three and three in the cache", impl.Engine{Files: []string{three}, Cache: at(30, "d", "e", "f")}, false},
		{"six, of which one is just below Floor", impl.Engine{Floor: 11, Files: []string{keysFile(10, "a"), keysFile(20, "b", "c", "d", "e", "f")}}, true},
		{"six, of which one is at Floor", impl.Engine{Floor: 10, Files: []string{keysFile(10, "a"), keysFile(20, "b", "c", "d", "e", "f")}}, false},
		{"six, of which one is below Floor in two files", impl.Engine{Floor: 15, Files: []string{keysFile(10, "f"), keysFile(14, "f"), keysFile(20, "a", "b", "c", "d", "e")}}, true},
		{"six, of which one is below Floor, and not in the later file", impl.Engine{Floor: 15, Files: []string{keysFile(10, "f"), keysFile(15, "f"), keysFile(20, "a", "b", "c", "d", "e")}}, false},
		{"six, of which one is below Floor, but not in the cache", impl.Engine{Floor: 15, Files: []string{keysFile(10, "f"), keysFile(20, "a", "b", "c", "d", "e")}, Cache: at(15, "f")}, false},
		{"six, of which one is below Floor, five in the cache", impl.Engine{Floor: 15, Files: []string{keysFile(10, "f")}, Cache: at(15, "a", "b", "c", "d", "e")}, true},
		{"twenty below Floor", impl.Engine{Floor: 5, Files: low}, true},
		{"twenty, five at Floor", impl.Engine{Floor: 4, Files: low}, true},
		{"twenty, ten from Floor on", impl.Engine{Floor: 3, Files: low}, false},
		{"twenty", impl.Engine{Files: low}, false},
		{"twenty, five at Floor, one of them in the cache", impl.Engine{Floor: 4, Files: low, Cache: at(4, "t")}, true},
		{"twenty, five at Floor, another one in the cache", impl.Engine{Floor: 4, Files: low, Cache: at(4, "a")}, false},
		{"twenty below Floor and five in the cache", impl.Engine{Floor: 5, Files: low, Cache: at(5, "v", "w", "x", "y", "z")}, true},
	}
}

func manyPointsCases() []engineCase {
	part := func(first, many int) string {
		return fileOf(impl.Series{Key: "k", Points: pointsEvery(first, 1, many, first)})
	}
	at := func(first, many int) []impl.Series {
		return []impl.Series{{Key: "k", Points: pointsEvery(first, 1, many, 9)}}
	}
	four := []string{part(0, 60), part(60, 60), part(120, 60), part(180, 60)}
	both := fileOf(seriesOf(pointsEvery(0, 1, 60, 1), "a", "k")...)
	return []engineCase{
		{"MaxPoints in a file", impl.Engine{Files: []string{part(0, 60)}}, true},
		{"MaxPoints in two files", impl.Engine{Files: []string{part(0, 30), part(30, 30)}}, true},
		{"one more in two files", impl.Engine{Files: []string{part(0, 30), part(30, 31)}}, false},
		{"MaxPoints in a file and the cache", impl.Engine{Files: []string{part(0, 59)}, Cache: at(59, 1)}, true},
		{"one more in the cache", impl.Engine{Files: []string{part(0, 60)}, Cache: at(60, 1)}, false},
		{"MaxPoints in two files and the cache", impl.Engine{Files: []string{part(0, 20), part(20, 20)}, Cache: at(40, 20)}, true},
		{"one more in two files and the cache", impl.Engine{Files: []string{part(0, 20), part(20, 20)}, Cache: at(40, 21)}, false},
		{"the same MaxPoints in all", impl.Engine{Files: slices.Repeat([]string{part(0, 60)}, 4), Cache: at(10, 40)}, true},
		{"the same MaxPoints in all, and one more", impl.Engine{Files: slices.Repeat([]string{part(0, 60)}, 4), Cache: at(21, 40)}, false},
		{"MaxPoints, some T in two files", impl.Engine{Files: []string{part(0, 40), part(30, 30)}}, true},
		{"one more, some T in two files", impl.Engine{Files: []string{part(0, 40), part(30, 31)}}, false},
		{"MaxPoints, some T in a file and the cache", impl.Engine{Files: []string{part(0, 40)}, Cache: at(20, 40)}, true},
		{"one more, some T in a file and the cache", impl.Engine{Files: []string{part(0, 40)}, Cache: at(21, 40)}, false},
		{"one more, one of them below Floor", impl.Engine{Floor: 1, Files: []string{part(0, 60)}, Cache: at(60, 1)}, true},
		{"two more, one of them below Floor", impl.Engine{Floor: 1, Files: []string{part(0, 60)}, Cache: at(60, 2)}, false},
		{"two more, two of them below Floor", impl.Engine{Floor: 2, Files: []string{part(0, 60)}, Cache: at(60, 2)}, true},
		{"240, MaxPoints from Floor on", impl.Engine{Floor: 180, Files: four}, true},
		{"240, one more from Floor on", impl.Engine{Floor: 179, Files: four}, false},
		{"240, all below Floor", impl.Engine{Floor: 240, Files: four}, true},
		{"240 and 40, MaxPoints from Floor on", impl.Engine{Floor: 220, Files: four, Cache: at(240, 40)}, true},
		{"240 and 40, one more from Floor on", impl.Engine{Floor: 219, Files: four, Cache: at(240, 40)}, false},
		{"the greatest times first", impl.Engine{Floor: 180, Files: []string{four[3], four[2], four[1], four[0]}}, true},
		{"the greatest times first, one more", impl.Engine{Floor: 179, Files: []string{four[3], four[2], four[1], four[0]}}, false},
		{"two keys with MaxPoints", impl.Engine{Files: []string{both}}, true},
		{"two keys, the first with one more", impl.Engine{Files: []string{both}, Cache: []impl.Series{oneSeries("a", 60, 1)}}, false},
		{"two keys, the second with one more", impl.Engine{Files: []string{both}, Cache: at(60, 1)}, false},
	}
}

func engineCases() []engineCase {
	return slices.Concat(floorCases(), cacheCases(), fileCases(), manyKeysCases(), manyPointsCases())
}

func badEngines() []engineCase {
	return slices.DeleteFunc(engineCases(), func(c engineCase) bool { return c.want })
}

func rightEngines() []engineCase {
	l := slices.DeleteFunc(engineCases(), func(c engineCase) bool { return !c.want })
	return append(l, engineCase{"rich", richEngine(), true}, engineCase{"full", fullEngine(), true})
}

func TestEngineOkEdges(t *testing.T) {
	for _, c := range engineCases() {
		if ok := impl.EngineOk(c.e); ok != c.want || slowEngineOk(c.e) != c.want {
			t.Errorf("%s: EngineOk = %v, the words say %v, want %v", c.name, ok, slowEngineOk(c.e), c.want)
		}
	}
}

func TestRightEnginesTell(t *testing.T) {
	for _, c := range rightEngines() {
		wantTold(t, c.name, c.e, slowPlain(c.e))
	}
}

func TestEnginesThatAreNotRight(t *testing.T) {
	for _, c := range badEngines() {
		e := c.e
		wantTold(t, c.name, e, nil)
		wantEngine(t, c.name, flushCall(), e, impl.Engine{}, 0)
		wantEngine(t, c.name, packCall(), e, impl.Engine{}, 0)
		for _, l := range [][]impl.Point{pointsAt(farTime, 1), pointsAt(0, 1), pointsAt(-1, 1), nil} {
			wantEngine(t, c.name, putCall("a", l), e, impl.Engine{}, impl.EgBad)
			wantEngine(t, c.name, putCall("A", l), e, impl.Engine{}, impl.EgBad)
		}
		// A time that raises nothing is named ahead of an engine that is not right.
		for _, n := range []int{math.MinInt, e.Floor, farTime + 1, math.MaxInt} {
			wantEngine(t, c.name, raiseCall(n), e, e, 0)
		}
		if e.Floor > math.MinInt {
			wantEngine(t, c.name, raiseCall(e.Floor-1), e, e, 0)
		}
		if e.Floor < farTime {
			wantEngine(t, c.name, raiseCall(e.Floor+1), e, impl.Engine{}, 0)
			wantEngine(t, c.name, raiseCall(farTime), e, impl.Engine{}, 0)
		}
	}
}

func wantQuery(t *testing.T, name string, e impl.Engine, key string, from, to int, want []impl.Point) {
	t.Helper()
	if got := impl.Query(e, key, from, to); !slices.Equal(got, want) {
		t.Errorf("%s: Query of %q from %d to %d = %s, want %s", name, key, from, to, brief(got), brief(want))
	}
	if said := slowQuery(e, key, from, to); !slices.Equal(said, want) {
		t.Errorf("%s: Query of %q from %d to %d is by the words %s, want %s", name, key, from, to, brief(said), brief(want))
	}
}

func TestQueryEdges(t *testing.T) {
	e := richEngine()
	for _, c := range []struct {
		name     string
		key      string
		from, to int
		want     []impl.Point
	}{
		{"in both files and the cache", "a", 0, 100, pointsAt(20, 22, 30, 33, 40, 14, 50, 35)},
		{"in two files", "b", 0, 100, pointsAt(20, 2, 21, 3)},
		{"in the cache alone", "c", 0, 100, pointsAt(20, 1)},
		{"below Floor alone", "d", 0, 100, nil},
		{"below Floor, asked for", "d", 5, 6, nil},
		{"a file's point below Floor, asked for", "a", 10, 20, nil},
		{"a file's points below Floor and at it", "a", 10, 21, pointsAt(20, 22)},
		{"in one file", "e", 0, 100, pointsAt(25, 5)},
		{"not there", "f", 0, 100, nil},
		{"a beginning of no key", "", 0, 100, nil},
		{"longer than a key that is there", "aa", 0, 100, nil},
		{"no key", "A", 0, 100, nil},
		{"from at a T", "a", 30, 100, pointsAt(30, 33, 40, 14, 50, 35)},
		{"from just below a T", "a", 29, 100, pointsAt(30, 33, 40, 14, 50, 35)},
		{"from just above a T", "a", 31, 100, pointsAt(40, 14, 50, 35)},
		{"to at a T", "a", 0, 40, pointsAt(20, 22, 30, 33)},
		{"to just below a T", "a", 0, 39, pointsAt(20, 22, 30, 33)},
		{"to just above a T", "a", 0, 41, pointsAt(20, 22, 30, 33, 40, 14)},
		{"one T alone", "a", 30, 31, pointsAt(30, 33)},
		{"from is to at a T", "a", 30, 30, nil},
		{"from above to", "a", 50, 20, nil},
		{"from just above to", "a", 31, 30, nil},
		{"between two T", "a", 31, 40, nil},
		{"behind the last T", "a", 51, 100, nil},
		{"from below 0", "a", -5, 21, pointsAt(20, 22)},
		{"to below 0", "a", -5, -1, nil},
		{"all numbers", "a", math.MinInt, math.MaxInt, pointsAt(20, 22, 30, 33, 40, 14, 50, 35)},
		{"all numbers turned round", "a", math.MaxInt, math.MinInt, nil},
	} {
		wantQuery(t, c.name, e, c.key, c.from, c.to, c.want)
	}
}

func TestQueryOfEnds(t *testing.T) {
	e := impl.Engine{Cache: []impl.Series{oneSeries("a", 0, 1, farTime, 2)}, Files: []string{keysFile(farTime, "b"), keysFile(0, "b")}}
	for _, at := range []impl.Engine{e, impl.Pack(e)} {
		wantQuery(t, "from 0", at, "a", 0, farTime, pointsAt(0, 1))
		wantQuery(t, "to MaxTime and 1", at, "a", 1, farTime+1, pointsAt(farTime, 2))
		wantQuery(t, "from MaxTime", at, "b", farTime, math.MaxInt, pointsAt(farTime, 1))
		wantQuery(t, "all", at, "b", 0, farTime+1, pointsAt(0, 1, farTime, 1))
	}
	for _, c := range badEngines()[:5] {
		wantQuery(t, c.name, c.e, "a", math.MinInt, math.MaxInt, nil)
	}
}

// Of a time that several places have, the value of the later place is told, whichever places they are.
func TestTheLaterPlaceCounts(t *testing.T) {
	for places := 1; places < 32; places++ {
		e := impl.Engine{Floor: 5}
		last := 0
		for i := range 5 {
			points := pointsAt(10, 100+i)
			if places>>i&1 == 0 {
				points = pointsAt(20+i, 1)
			} else {
				last = 100 + i
			}
			s := impl.Series{Key: "k", Points: points}
			if i < 4 {
				e.Files = append(e.Files, fileOf(s))
			} else {
				e.Cache = []impl.Series{s}
			}
		}
		wantQuery(t, "places "+impl.Dec(places), e, "k", 10, 11, pointsAt(10, last))
		wantQuery(t, "packed, places "+impl.Dec(places), impl.Pack(e), "k", 10, 11, pointsAt(10, last))
		wantQuery(t, "flushed, places "+impl.Dec(places), impl.Flush(e), "k", 10, 11, pointsAt(10, last))
	}
}

func TestPlainEdges(t *testing.T) {
	for _, c := range []struct {
		name string
		e    impl.Engine
		want []impl.Series
	}{
		{"the zero Engine", impl.Engine{}, nil},
		{"a floor alone", impl.Engine{Floor: 7}, nil},
		{"the cache alone", impl.Engine{Cache: []impl.Series{oneSeries("a", 1, 2), oneSeries("b", 0, 3)}}, []impl.Series{oneSeries("a", 1, 2), oneSeries("b", 0, 3)}},
		{"a file alone", impl.Engine{Files: []string{fileOf(oneSeries("a", 1, 2), oneSeries("b", 0, 3))}}, []impl.Series{oneSeries("a", 1, 2), oneSeries("b", 0, 3)}},
		{"the later file has the lesser key", impl.Engine{Files: []string{keysFile(3, "b", "d"), keysFile(2, "a", "c")}}, []impl.Series{oneSeries("a", 2, 1), oneSeries("b", 3, 1), oneSeries("c", 2, 1), oneSeries("d", 3, 1)}},
		{"the cache has the least key", impl.Engine{Files: []string{keysFile(3, "b")}, Cache: []impl.Series{oneSeries("a", 9, 9), oneSeries("b", 2, 2)}}, []impl.Series{oneSeries("a", 9, 9), oneSeries("b", 2, 2, 3, 1)}},
		{"a beginning is less", impl.Engine{Files: []string{keysFile(3, "aa", "b"), keysFile(3, "a")}}, seriesOf(pointsAt(3, 1), "a", "aa", "b")},
		{"a key below Floor alone", impl.Engine{Floor: 4, Files: []string{keysFile(3, "a", "b"), keysFile(4, "b")}}, []impl.Series{oneSeries("b", 4, 1)}},
		{"all keys below Floor", impl.Engine{Floor: 4, Files: []string{keysFile(3, "a", "b"), keysFile(2, "c")}}, nil},
		{"a key below Floor in a file and above it in the cache", impl.Engine{Floor: 4, Files: []string{keysFile(3, "a")}, Cache: []impl.Series{oneSeries("a", 5, 5)}}, []impl.Series{oneSeries("a", 5, 5)}},
		{"one time in two files and the cache", impl.Engine{Files: []string{fileOf(oneSeries("a", 1, 1, 2, 1, 3, 1)), fileOf(oneSeries("a", 2, 2, 3, 2))}, Cache: []impl.Series{oneSeries("a", 3, 3)}}, []impl.Series{oneSeries("a", 1, 1, 2, 2, 3, 3)}},
	} {
		if !impl.EngineOk(c.e) {
			t.Errorf("%s: it is not right", c.name)
		}
		wantTold(t, c.name, c.e, c.want)
		if said := slowPlain(c.e); !sameSeries(said, c.want) {
			t.Errorf("%s: the words tell %s", c.name, brief(said))
		}
	}
}

func TestFlushEdges(t *testing.T) {
	one, two := keysFile(5, "a"), keysFile(6, "b", "c")
	cache := []impl.Series{oneSeries("a", 5, 9, 7, 7), oneSeries("d", 8, 8)}
	fresh := fileOf(cache...)
	together := fileOf(oneSeries("a", 5, 9, 7, 7), oneSeries("b", 6, 1), oneSeries("c", 6, 1), oneSeries("d", 8, 8))
	for _, c := range []struct {
		name    string
		e, want impl.Engine
	}{
		{"the zero Engine", impl.Engine{}, impl.Engine{}},
		{"a floor alone", impl.Engine{Floor: 9}, impl.Engine{Floor: 9}},
		{"an empty Cache and a file", impl.Engine{Files: []string{one}}, impl.Engine{Files: []string{one}}},
		{"an empty Cache and MaxFiles files", impl.Engine{Files: []string{one, two, one, two}}, impl.Engine{Files: []string{one, two, one, two}}},
		{"an empty Cache and files below Floor", impl.Engine{Floor: 7, Files: []string{one, two}}, impl.Engine{Floor: 7, Files: []string{one, two}}},
		{"an empty Cache and MaxFiles files below Floor", impl.Engine{Floor: 7, Files: []string{one, two, one, two}}, impl.Engine{Floor: 7, Files: []string{one, two, one, two}}},
		{"no file", impl.Engine{Cache: cache}, impl.Engine{Files: []string{fresh}}},
		{"a file", impl.Engine{Cache: cache, Files: []string{one}}, impl.Engine{Files: []string{one, fresh}}},
		{"two files", impl.Engine{Cache: cache, Files: []string{two, one}}, impl.Engine{Files: []string{two, one, fresh}}},
		{"MaxFiles - 1 files", impl.Engine{Cache: cache, Files: []string{one, two, one}}, impl.Engine{Files: []string{one, two, one, fresh}}},
		{"MaxFiles files", impl.Engine{Cache: cache, Files: []string{one, two, one, two}}, impl.Engine{Files: []string{together}}},
		{"MaxFiles files, some points below Floor", impl.Engine{Floor: 5, Cache: cache, Files: []string{keysFile(4, "a", "x", "y"), two, one, two}}, impl.Engine{Floor: 5, Files: []string{together}}},
		{"MaxFiles files below Floor", impl.Engine{Floor: 7, Cache: []impl.Series{oneSeries("a", 7, 1)}, Files: []string{one, two, one, two}}, impl.Engine{Floor: 7, Files: []string{fileOf(oneSeries("a", 7, 1))}}},
		{"MaxFiles - 1 files below Floor stay", impl.Engine{Floor: 7, Cache: []impl.Series{oneSeries("a", 7, 1)}, Files: []string{one, two, one}}, impl.Engine{Floor: 7, Files: []string{one, two, one, fileOf(oneSeries("a", 7, 1))}}},
		{"full", fullEngine(), impl.Engine{Floor: 100, Files: []string{fileOf(fullTold()...)}}},
	} {
		got := wantEngine(t, c.name, flushCall(), c.e, c.want, 0)
		wantTold(t, c.name, got, impl.Plain(c.e))
		wantEngine(t, "flushed again: "+c.name, flushCall(), got, got, 0)
	}
}

func TestPackEdges(t *testing.T) {
	one, two := fileOf(oneSeries("a", 5, 1, 6, 2, 7, 3)), keysFile(6, "b", "c")
	cache := []impl.Series{oneSeries("a", 7, 9, 8, 8), oneSeries("d", 8, 8)}
	for _, c := range []struct {
		name    string
		e, want impl.Engine
	}{
		{"the zero Engine", impl.Engine{}, impl.Engine{}},
		{"a floor alone", impl.Engine{Floor: 9}, impl.Engine{Floor: 9}},
		{"a file", impl.Engine{Files: []string{one}}, impl.Engine{Files: []string{one}}},
		{"a file at Floor", impl.Engine{Floor: 5, Files: []string{one}}, impl.Engine{Floor: 5, Files: []string{one}}},
		{"a file in part below Floor", impl.Engine{Floor: 6, Files: []string{one}}, impl.Engine{Floor: 6, Files: []string{fileOf(oneSeries("a", 6, 2, 7, 3))}}},
		{"a file but for one point below Floor", impl.Engine{Floor: 7, Files: []string{one}}, impl.Engine{Floor: 7, Files: []string{fileOf(oneSeries("a", 7, 3))}}},
		{"a file all below Floor", impl.Engine{Floor: 8, Files: []string{one}}, impl.Engine{Floor: 8}},
		{"several files all below Floor", impl.Engine{Floor: 8, Files: []string{one, two, one, two}}, impl.Engine{Floor: 8}},
		{"one key of a file below Floor", impl.Engine{Floor: 7, Files: []string{one, two}}, impl.Engine{Floor: 7, Files: []string{fileOf(oneSeries("a", 7, 3))}}},
		{"the cache alone", impl.Engine{Cache: cache}, impl.Engine{Files: []string{fileOf(cache...)}}},
		{"a file and the cache", impl.Engine{Cache: cache, Files: []string{one}}, impl.Engine{Files: []string{fileOf(oneSeries("a", 5, 1, 6, 2, 7, 9, 8, 8), oneSeries("d", 8, 8))}}},
		{"several files", impl.Engine{Files: []string{two, one, keysFile(7, "a", "c")}}, impl.Engine{Files: []string{fileOf(oneSeries("a", 5, 1, 6, 2, 7, 1), oneSeries("b", 6, 1), oneSeries("c", 6, 1, 7, 1))}}},
		{"several files and the cache", impl.Engine{Floor: 6, Cache: cache, Files: []string{one, two, one}}, impl.Engine{Floor: 6, Files: []string{fileOf(oneSeries("a", 6, 2, 7, 9, 8, 8), oneSeries("b", 6, 1), oneSeries("c", 6, 1), oneSeries("d", 8, 8))}}},
		{"MaxFiles files and the cache", impl.Engine{Floor: 7, Cache: cache, Files: []string{one, two, one, two}}, impl.Engine{Floor: 7, Files: []string{fileOf(cache...)}}},
		{"files below Floor and the cache", impl.Engine{Floor: 8, Cache: []impl.Series{oneSeries("d", 8, 8)}, Files: []string{one, two}}, impl.Engine{Floor: 8, Files: []string{fileOf(oneSeries("d", 8, 8))}}},
		{"rich", richEngine(), impl.Engine{Floor: 20, Files: []string{fileOf(richTold()...)}}},
		{"full", fullEngine(), impl.Engine{Floor: 100, Files: []string{fileOf(fullTold()...)}}},
	} {
		got := wantEngine(t, c.name, packCall(), c.e, c.want, 0)
		wantTold(t, c.name, got, impl.Plain(c.e))
		wantEngine(t, "packed again: "+c.name, packCall(), got, got, 0)
	}
}

// Flush and Pack change nothing that is told, of each right engine that there is here.
func TestPutAwayTellsTheSame(t *testing.T) {
	for _, c := range rightEngines() {
		all := impl.Plain(c.e)
		for _, call := range []engineCall{flushCall(), packCall()} {
			got, _ := wantAsSaid(t, c.name, call, c.e)
			wantTold(t, c.name+" behind "+call.name, got, all)
			if len(got.Cache) != 0 || got.Floor != c.e.Floor {
				t.Fatalf("%s: %s left %s", c.name, call.name, brief(got))
			}
		}
	}
}

func TestPutEachReason(t *testing.T) {
	e := richEngine()
	for _, key := range wrongKeys() {
		wantEngine(t, "a key that is none", putCall(key, pointsAt(30, 1)), e, e, impl.EgBad)
	}
	for _, l := range append(wrongPoints(), nil, []impl.Point{}) {
		wantEngine(t, "points that are not right", putCall("a", l), e, e, impl.EgBad)
		wantEngine(t, "points that are not right, of the zero Engine", putCall("a", l), impl.Engine{}, impl.Engine{}, impl.EgBad)
	}
	full := fullEngine()
	for _, c := range []struct {
		name string
		e    impl.Engine
		key  string
		l    []impl.Point
		code int
	}{
		{"a key that is none, late", e, "A", pointsAt(19, 1), impl.EgBad},
		{"a key that is none, full", full, "A", pointsAt(500, 1), impl.EgBad},
		{"points that are not right, late", e, "a", pointsAt(19, 1, 19, 1), impl.EgBad},
		{"points that are not right, late, from -1 on", e, "a", pointsAt(-1, 1, 30, 1), impl.EgBad},
		{"points that are not right, full", full, "a", pointsAt(500, 1, 500, 1), impl.EgBad},
		{"no points, full", full, "f", nil, impl.EgBad},
		{"a T just below Floor", e, "a", pointsAt(19, 1), impl.EgLate},
		{"a T just below Floor among others", e, "a", pointsAt(19, 1, 20, 1, 30, 1), impl.EgLate},
		{"all T below Floor", e, "a", pointsAt(0, 1, 19, 1), impl.EgLate},
		{"a T below Floor of a new key", e, "new", pointsAt(19, 1), impl.EgLate},
		{"a T below Floor that a file has", e, "a", pointsAt(10, 11), impl.EgLate},
		{"a T just below MaxTime as Floor", impl.Engine{Floor: farTime}, "a", pointsAt(farTime-1, 1, farTime, 1), impl.EgLate},
		{"late and full: of points", full, "a", pointsAt(99, 1, 500, 1), impl.EgLate},
		{"late and full: of keys", full, "f", pointsAt(99, 1), impl.EgLate},
		{"one point too many", full, "a", pointsAt(160, 1), impl.EgFull},
		{"a key too many", full, "f", pointsAt(100, 1), impl.EgFull},
		{"a key too many, that has points below Floor alone", full, "v", pointsAt(100, 1), impl.EgFull},
	} {
		wantEngine(t, c.name, putCall(c.key, c.l), c.e, c.e, c.code)
		wantTold(t, c.name, c.e, slowPlain(c.e))
	}
}

func TestPutAtFloor(t *testing.T) {
	for _, floor := range []int{0, 1, 100, farTime - 1, farTime} {
		e := impl.Engine{Floor: floor}
		wantEngine(t, "at Floor", putCall("a", pointsAt(floor, 5)), e, impl.Engine{Floor: floor, Cache: []impl.Series{oneSeries("a", floor, 5)}}, impl.EgOk)
		if floor > 0 {
			wantEngine(t, "just below Floor", putCall("a", pointsAt(floor-1, 5)), e, e, impl.EgLate)
			wantEngine(t, "just below Floor and at it", putCall("a", pointsAt(floor-1, 5, floor, 5)), e, e, impl.EgLate)
		}
	}
}

func TestPutIntoTheCache(t *testing.T) {
	e := impl.Engine{
		Floor: 3,
		Cache: []impl.Series{oneSeries("b", 10, 1, 20, 2), oneSeries("d", 5, 5)},
		Files: []string{fileOf(oneSeries("b", 2, 8, 15, 8, 20, 8), oneSeries("c", 10, 8))},
	}
	b, d := e.Cache[0], e.Cache[1]
	for _, c := range []struct {
		name  string
		key   string
		l     []impl.Point
		cache []impl.Series
	}{
		{"a key ahead of all", "a", pointsAt(4, 4), []impl.Series{oneSeries("a", 4, 4), b, d}},
		{"a key between", "bb", pointsAt(4, 4), []impl.Series{b, oneSeries("bb", 4, 4), d}},
		{"a key that a file has", "c", pointsAt(11, 4), []impl.Series{b, oneSeries("c", 11, 4), d}},
		{"a key behind all", "zzzzzzzz", pointsAt(4, 4), []impl.Series{b, d, oneSeries("zzzzzzzz", 4, 4)}},
		{"a T that the cache has", "b", pointsAt(10, 7), []impl.Series{oneSeries("b", 10, 7, 20, 2), d}},
		{"all T that the cache has", "b", pointsAt(10, 7, 20, 9), []impl.Series{oneSeries("b", 10, 7, 20, 9), d}},
		{"a T that the file has", "b", pointsAt(15, 7), []impl.Series{oneSeries("b", 10, 1, 15, 7, 20, 2), d}},
		{"a T that both have", "b", pointsAt(20, 7), []impl.Series{oneSeries("b", 10, 1, 20, 7), d}},
		{"a T that the file has, of a key that is not in the cache", "c", pointsAt(10, 7), []impl.Series{b, oneSeries("c", 10, 7), d}},
		{"a point as it is", "b", pointsAt(10, 1), []impl.Series{b, d}},
		{"a T ahead", "b", pointsAt(3, 7), []impl.Series{oneSeries("b", 3, 7, 10, 1, 20, 2), d}},
		{"a T behind", "b", pointsAt(21, 7), []impl.Series{oneSeries("b", 10, 1, 20, 2, 21, 7), d}},
		{"T between and over", "b", pointsAt(9, 7, 10, 7, 11, 7, 30, 7), []impl.Series{oneSeries("b", 9, 7, 10, 7, 11, 7, 20, 2, 30, 7), d}},
		{"the edges of T and V", "d", pointsAt(5, -farTime, farTime, farTime), []impl.Series{b, oneSeries("d", 5, -farTime, farTime, farTime)}},
	} {
		got := wantEngine(t, c.name, putCall(c.key, c.l), e, impl.Engine{Floor: 3, Cache: c.cache, Files: e.Files}, impl.EgOk)
		for _, p := range c.l {
			wantQuery(t, c.name, got, c.key, p.T, p.T+1, []impl.Point{p})
		}
	}
}

// MaxPoints of a key, and one more, wherever the points stand; of a T that is there already the new value counts alone.
func TestPutToMaxPoints(t *testing.T) {
	part := func(first, many int) string {
		return fileOf(impl.Series{Key: "k", Points: pointsEvery(first, 1, many, 1)})
	}
	cache := []impl.Series{{Key: "k", Points: pointsEvery(40, 1, 10, 2)}}
	for _, c := range []struct {
		name string
		e    impl.Engine
		l    []impl.Point
		code int
	}{
		{"at once to MaxPoints", impl.Engine{}, pointsEvery(0, 1, 60, 3), impl.EgOk},
		{"to MaxPoints in a file", impl.Engine{Files: []string{part(0, 59)}}, pointsAt(59, 3), impl.EgOk},
		{"one more than in a file", impl.Engine{Files: []string{part(0, 60)}}, pointsAt(60, 3), impl.EgFull},
		{"over one of MaxPoints in a file", impl.Engine{Files: []string{part(0, 60)}}, pointsAt(0, 3), impl.EgOk},
		{"over all of MaxPoints in a file", impl.Engine{Files: []string{part(0, 60)}}, pointsEvery(0, 1, 60, 3), impl.EgOk},
		{"over one of MaxPoints in a file, and one more", impl.Engine{Files: []string{part(0, 60)}}, pointsAt(59, 3, 60, 3), impl.EgFull},
		{"to MaxPoints, in a file and the cache", impl.Engine{Files: []string{part(0, 40)}, Cache: cache}, pointsEvery(50, 1, 10, 3), impl.EgOk},
		{"one more, in a file and the cache", impl.Engine{Files: []string{part(0, 40)}, Cache: cache}, pointsEvery(50, 1, 11, 3), impl.EgFull},
		{"to MaxPoints, over some of the file and of the cache", impl.Engine{Files: []string{part(0, 40)}, Cache: cache}, pointsEvery(30, 1, 30, 3), impl.EgOk},
		{"one more, over some of the file and of the cache", impl.Engine{Files: []string{part(0, 40)}, Cache: cache}, pointsEvery(30, 1, 31, 3), impl.EgFull},
		{"to MaxPoints, some below Floor", impl.Engine{Floor: 10, Files: []string{part(0, 60)}}, pointsEvery(60, 1, 10, 3), impl.EgOk},
		{"one more, some below Floor", impl.Engine{Floor: 10, Files: []string{part(0, 60)}}, pointsEvery(60, 1, 11, 3), impl.EgFull},
		{"MaxPoints, all others below Floor", impl.Engine{Floor: 60, Files: []string{part(0, 60)}}, pointsEvery(60, 1, 60, 3), impl.EgOk},
		{"MaxPoints, all others but one below Floor", impl.Engine{Floor: 59, Files: []string{part(0, 60)}}, pointsEvery(60, 1, 60, 3), impl.EgFull},
		{"to MaxPoints, some in two files", impl.Engine{Files: []string{part(0, 40), part(20, 30)}}, pointsEvery(50, 1, 10, 3), impl.EgOk},
		{"one more, some in two files", impl.Engine{Files: []string{part(0, 40), part(20, 30)}}, pointsEvery(50, 1, 11, 3), impl.EgFull},
		{"another key with MaxPoints", impl.Engine{Files: []string{fileOf(seriesOf(pointsEvery(0, 1, 60, 1), "a")...)}}, pointsEvery(60, 1, 60, 3), impl.EgOk},
	} {
		got, code := wantAsSaid(t, c.name, putCall("k", c.l), c.e)
		if code != c.code {
			t.Errorf("%s: the code is %d, want %d", c.name, code, c.code)
		}
		if code == impl.EgOk {
			wantQuery(t, c.name, got, "k", c.l[0].T, c.l[len(c.l)-1].T+1, c.l)
		}
	}
}

func TestPutToMaxSeries(t *testing.T) {
	cacheKeys := func(n int, keys ...string) []impl.Series { return seriesOf(pointsAt(n, 1), keys...) }
	for _, c := range []struct {
		name string
		e    impl.Engine
		key  string
		code int
	}{
		{"the fifth in the cache", impl.Engine{Cache: cacheKeys(5, "a", "b", "c", "d")}, "e", impl.EgOk},
		{"the sixth in the cache", impl.Engine{Cache: cacheKeys(5, "a", "b", "c", "d", "e")}, "f", impl.EgFull},
		{"the sixth ahead of all", impl.Engine{Cache: cacheKeys(5, "b", "c", "d", "e", "f")}, "a", impl.EgFull},
		{"one of five in the cache", impl.Engine{Cache: cacheKeys(5, "a", "b", "c", "d", "e")}, "c", impl.EgOk},
		{"the fifth beside a file", impl.Engine{Files: []string{keysFile(5, "a", "b", "c", "d")}}, "e", impl.EgOk},
		{"the sixth beside a file", impl.Engine{Files: []string{keysFile(5, "a", "b", "c", "d", "e")}}, "f", impl.EgFull},
		{"one of five in a file", impl.Engine{Files: []string{keysFile(5, "a", "b", "c", "d", "e")}}, "e", impl.EgOk},
		{"the sixth beside a file and the cache", impl.Engine{Files: []string{keysFile(5, "a", "b", "c")}, Cache: cacheKeys(5, "c", "d", "e")}, "f", impl.EgFull},
		{"the fifth beside a file and the cache", impl.Engine{Files: []string{keysFile(5, "a", "b")}, Cache: cacheKeys(5, "b", "d", "e")}, "f", impl.EgOk},
		{"the sixth, one of the others below Floor alone", impl.Engine{Floor: 6, Files: []string{keysFile(5, "a"), keysFile(6, "b", "c", "d", "e")}}, "f", impl.EgOk},
		{"the sixth, one of the others at Floor", impl.Engine{Floor: 5, Files: []string{keysFile(5, "a"), keysFile(6, "b", "c", "d", "e")}}, "f", impl.EgFull},
		{"the seventh, one of the others below Floor alone", impl.Engine{Floor: 6, Files: []string{keysFile(5, "a"), keysFile(6, "b", "c", "d", "e", "f")}}, "g", impl.EgFull},
		{"the one below Floor alone, as the fifth", impl.Engine{Floor: 6, Files: []string{keysFile(5, "a"), keysFile(6, "b", "c", "d", "e")}}, "a", impl.EgOk},
		{"the one below Floor alone, as the sixth", impl.Engine{Floor: 6, Files: []string{keysFile(5, "a"), keysFile(6, "b", "c", "d", "e", "f")}}, "a", impl.EgFull},
		{"all others below Floor", impl.Engine{Floor: 6, Files: []string{keysFile(5, "a", "b", "c", "d", "e"), keysFile(4, "g", "h", "i", "j", "k")}}, "f", impl.EgOk},
	} {
		got, code := wantAsSaid(t, c.name, putCall(c.key, pointsAt(7, 7)), c.e)
		if code != c.code {
			t.Errorf("%s: the code is %d, want %d", c.name, code, c.code)
		}
		if code == impl.EgOk {
			wantQuery(t, c.name, got, c.key, 7, 8, pointsAt(7, 7))
		}
	}
}

func TestPutToMaxCache(t *testing.T) {
	one := keysFile(2, "x")
	four := []string{one, keysFile(3, "x"), keysFile(4, "x"), keysFile(1, "y")}
	low := impl.Series{Key: "k", Points: pointsEvery(0, 1, 30, 1)}
	both := func(many, value int) []impl.Series {
		return []impl.Series{{Key: "k", Points: append(pointsEvery(0, 1, 30, 1), pointsEvery(30, 1, many, value)...)}}
	}
	for _, c := range []struct {
		name string
		e    impl.Engine
		key  string
		l    []impl.Point
		want impl.Engine
	}{
		{"MaxCache at once", impl.Engine{}, "k", pointsEvery(0, 1, 40, 1), impl.Engine{Cache: seriesOf(pointsEvery(0, 1, 40, 1), "k")}},
		{"one more at once", impl.Engine{}, "k", pointsEvery(0, 1, 41, 1), impl.Engine{Files: []string{fileOf(seriesOf(pointsEvery(0, 1, 41, 1), "k")...)}}},
		{"MaxPoints at once", impl.Engine{}, "k", pointsEvery(0, 1, 60, 1), impl.Engine{Files: []string{fileOf(seriesOf(pointsEvery(0, 1, 60, 1), "k")...)}}},
		{"to MaxCache", impl.Engine{Cache: []impl.Series{low}}, "k", pointsEvery(30, 1, 10, 2), impl.Engine{Cache: both(10, 2)}},
		{"to one more", impl.Engine{Cache: []impl.Series{low}}, "k", pointsEvery(30, 1, 11, 2), impl.Engine{Files: []string{fileOf(both(11, 2)...)}}},
		{"to MaxCache by another key", impl.Engine{Cache: []impl.Series{low}}, "a", pointsEvery(5, 1, 10, 2), impl.Engine{Cache: []impl.Series{{Key: "a", Points: pointsEvery(5, 1, 10, 2)}, low}}},
		{"to one more by another key", impl.Engine{Cache: []impl.Series{low}}, "a", pointsEvery(5, 1, 11, 2), impl.Engine{Files: []string{fileOf(impl.Series{Key: "a", Points: pointsEvery(5, 1, 11, 2)}, low)}}},
		{"over all of MaxCache", impl.Engine{Cache: both(10, 2)}, "k", pointsEvery(0, 1, 40, 3), impl.Engine{Cache: seriesOf(pointsEvery(0, 1, 40, 3), "k")}},
		{"over one of MaxCache, and one more", impl.Engine{Cache: both(10, 2)}, "k", pointsAt(39, 2, 40, 2), impl.Engine{Files: []string{fileOf(both(11, 2)...)}}},
		{"to one more, behind a file", impl.Engine{Cache: []impl.Series{low}, Files: []string{one}}, "k", pointsEvery(30, 1, 11, 2), impl.Engine{Files: []string{one, fileOf(both(11, 2)...)}}},
		{"to one more, behind MaxFiles - 1 files", impl.Engine{Cache: []impl.Series{low}, Files: four[:3]}, "k", pointsEvery(30, 1, 11, 2), impl.Engine{Files: []string{four[0], four[1], four[2], fileOf(both(11, 2)...)}}},
		{"to MaxCache, behind MaxFiles files", impl.Engine{Cache: []impl.Series{low}, Files: four}, "k", pointsEvery(30, 1, 10, 2), impl.Engine{Cache: both(10, 2), Files: four}},
		{"to one more, behind MaxFiles files", impl.Engine{Cache: []impl.Series{low}, Files: four}, "k", pointsEvery(30, 1, 11, 2), impl.Engine{Files: []string{fileOf(both(11, 2)[0], oneSeries("x", 2, 1, 3, 1, 4, 1), oneSeries("y", 1, 1))}}},
		{"to one more, over some, behind MaxFiles files", impl.Engine{Cache: []impl.Series{low}, Files: four}, "k", pointsEvery(25, 1, 16, 2), impl.Engine{Files: []string{fileOf(impl.Series{Key: "k", Points: append(pointsEvery(0, 1, 25, 1), pointsEvery(25, 1, 16, 2)...)}, oneSeries("x", 2, 1, 3, 1, 4, 1), oneSeries("y", 1, 1))}}},
		{"to one more, over what a file has, behind MaxFiles files", impl.Engine{Cache: []impl.Series{low}, Files: four}, "x", pointsEvery(2, 1, 11, 2), impl.Engine{Files: []string{fileOf(low, impl.Series{Key: "x", Points: pointsEvery(2, 1, 11, 2)}, oneSeries("y", 1, 1))}}},
		{"to one more, behind MaxFiles files in part below Floor", impl.Engine{Floor: 4, Cache: seriesOf(pointsEvery(4, 1, 30, 1), "k"), Files: four}, "k", pointsEvery(34, 1, 11, 1), impl.Engine{Floor: 4, Files: []string{fileOf(impl.Series{Key: "k", Points: pointsEvery(4, 1, 41, 1)}, oneSeries("x", 4, 1))}}},
		{"to one more, behind MaxFiles files below Floor", impl.Engine{Floor: 5, Files: four}, "k", pointsEvery(5, 1, 41, 1), impl.Engine{Floor: 5, Files: []string{fileOf(seriesOf(pointsEvery(5, 1, 41, 1), "k")...)}}},
	} {
		got := wantEngine(t, c.name, putCall(c.key, c.l), c.e, c.want, impl.EgOk)
		wantQuery(t, c.name, got, c.key, c.l[0].T, c.l[len(c.l)-1].T+1, c.l)
	}
}

func TestRaiseEdges(t *testing.T) {
	file := fileOf(oneSeries("a", 5, 1, 12, 1, 30, 1), oneSeries("b", 5, 1))
	e := impl.Engine{Floor: 10, Cache: []impl.Series{oneSeries("a", 10, 1, 20, 2, 30, 3), oneSeries("b", 19, 4), oneSeries("c", 25, 5)}, Files: []string{file}}
	a, c := oneSeries("a", 20, 2, 30, 3), oneSeries("c", 25, 5)
	at := func(floor int, cache ...impl.Series) impl.Engine {
		return impl.Engine{Floor: floor, Cache: cache, Files: []string{file}}
	}
	for _, x := range []struct {
		name string
		to   int
		want impl.Engine
	}{
		{"the least number", math.MinInt, e},
		{"-1", -1, e},
		{"0", 0, e},
		{"just below Floor", 9, e},
		{"Floor", 10, e},
		{"just above Floor", 11, at(11, a, oneSeries("b", 19, 4), c)},
		{"at the only T of a key", 19, at(19, a, oneSeries("b", 19, 4), c)},
		{"just above the only T of a key", 20, at(20, a, c)},
		{"just above a T", 21, at(21, oneSeries("a", 30, 3), c)},
		{"at the last key's T", 25, at(25, oneSeries("a", 30, 3), c)},
		{"just above the last key's T", 26, at(26, oneSeries("a", 30, 3))},
		{"at the last T", 30, at(30, oneSeries("a", 30, 3))},
		{"just above the last T", 31, at(31)},
		{"MaxTime - 1", farTime - 1, at(farTime - 1)},
		{"MaxTime", farTime, at(farTime)},
		{"MaxTime + 1", farTime + 1, e},
		{"the greatest number", math.MaxInt, e},
	} {
		got := wantEngine(t, x.name, raiseCall(x.to), e, x.want, 0)
		wantRaised(t, x.name, e, got, x.want.Floor)
		wantEngine(t, "raised again: "+x.name, raiseCall(x.to), got, got, 0)
	}
	for _, to := range []int{farTime - 1, farTime, farTime + 1, math.MaxInt} {
		top := impl.Engine{Floor: farTime, Cache: []impl.Series{oneSeries("a", farTime, 1)}}
		wantEngine(t, "at MaxTime", raiseCall(to), top, top, 0)
	}
	wantEngine(t, "the zero Engine", raiseCall(0), impl.Engine{}, impl.Engine{}, 0)
	wantEngine(t, "the zero Engine", raiseCall(1), impl.Engine{}, impl.Engine{Floor: 1}, 0)
	wantEngine(t, "a point at MaxTime", raiseCall(farTime), impl.Engine{Cache: []impl.Series{oneSeries("a", 0, 1, farTime-1, 2, farTime, 3)}}, impl.Engine{Floor: farTime, Cache: []impl.Series{oneSeries("a", farTime, 3)}}, 0)
}

// wantRaised wants told just what was told from the floor on, and the files as they were.
func wantRaised(t *testing.T, name string, e, raised impl.Engine, floor int) {
	t.Helper()
	var all []impl.Series
	for _, s := range impl.Plain(e) {
		if points := slowSlice(s.Points, floor, math.MaxInt); len(points) > 0 {
			all = append(all, impl.Series{Key: s.Key, Points: points})
		}
	}
	wantTold(t, name, raised, all)
	if raised.Floor != floor || !slices.Equal(raised.Files, e.Files) {
		t.Fatalf("%s: Floor is %d, want %d, or its files are others", name, raised.Floor, floor)
	}
}

func TestRaiseTakesAwayJustWhatIsBelow(t *testing.T) {
	for _, c := range rightEngines() {
		for _, s := range append(slowPlain(c.e), oneSeries("no", c.e.Floor, 0)) {
			for _, p := range []impl.Point{s.Points[0], s.Points[len(s.Points)/2], s.Points[len(s.Points)-1]} {
				for _, to := range []int{p.T, p.T + 1} {
					got, _ := wantAsSaid(t, c.name, raiseCall(to), c.e)
					if to <= farTime {
						wantRaised(t, c.name, c.e, got, to)
					}
				}
			}
		}
	}
}

// What is below the floor and still in a file never comes back, and takes no room.
func TestBelowTheFloorInAFile(t *testing.T) {
	do := func(e impl.Engine, key string, l []impl.Point, code int) impl.Engine {
		t.Helper()
		next, got := impl.Put(e, key, l)
		if got != code {
			t.Fatalf("Put of %s is %d, want %d", key, got, code)
		}
		return next
	}
	e := impl.Engine{}
	for _, key := range []string{"a", "b", "c", "d", "e"} {
		e = impl.Flush(do(e, key, pointsEvery(0, 1, 60, 1), impl.EgOk))
	}
	do(e, "f", pointsAt(60, 1), impl.EgFull)
	do(e, "a", pointsAt(60, 1), impl.EgFull)
	e = impl.Raise(e, 59)
	do(e, "f", pointsAt(60, 1), impl.EgFull)
	e = do(e, "a", pointsEvery(60, 1, 59, 2), impl.EgOk)
	do(e, "a", pointsAt(119, 2), impl.EgFull)
	e = impl.Raise(e, 60)
	if len(e.Files) == 0 || len(impl.Plain(e)) != 1 {
		t.Fatalf("%d files tell %s", len(e.Files), brief(impl.Plain(e)))
	}
	e = do(e, "a", pointsAt(119, 3), impl.EgOk)
	do(e, "a", pointsAt(120, 3), impl.EgFull)
	do(e, "a", pointsAt(59, 3), impl.EgLate)
	for _, key := range []string{"v", "w", "x", "y"} {
		e = do(e, key, pointsAt(60, 4), impl.EgOk)
	}
	do(e, "b", pointsAt(60, 4), impl.EgFull)
	wantQuery(t, "b is gone", e, "b", 0, 1000, nil)
	wantQuery(t, "a from 60 on", e, "a", 0, 1000, append(pointsEvery(60, 1, 59, 2), pointsAt(119, 3)...))
	told := impl.Plain(e)
	wantTold(t, "flushed", impl.Flush(e), told)
	wantTold(t, "packed", impl.Pack(e), told)
}

// A putList is all that was put, in order, and the floor: what an engine is held against.
type putList struct {
	floor int
	keys  []string
	puts  []impl.Point
}

// last looks from the end for what was put at a time.
func (m putList) last(key string, n int) (int, bool) {
	for i := len(m.puts) - 1; i >= 0; i-- {
		if m.keys[i] == key && m.puts[i].T == n {
			return m.puts[i].V, true
		}
	}
	return 0, false
}

func (m putList) has(key string) []impl.Point {
	at := map[int]int{}
	for i, p := range m.puts {
		if m.keys[i] == key {
			at[p.T] = p.V
		}
	}
	return byTime(at, m.floor)
}

func (m putList) all() []impl.Series {
	var l []impl.Series
	for _, key := range slices.Compact(slices.Sorted(slices.Values(m.keys))) {
		if points := m.has(key); len(points) > 0 {
			l = append(l, impl.Series{Key: key, Points: points})
		}
	}
	return l
}

func (m putList) with(key string, l []impl.Point) putList {
	m.keys = append(slices.Clone(m.keys), slices.Repeat([]string{key}, len(l))...)
	m.puts = append(slices.Clone(m.puts), l...)
	return m
}

func (m putList) put(key string, l []impl.Point) (putList, int) {
	if !slowKey(key) || len(l) == 0 || !slowPointsOk(l) {
		return m, impl.EgBad
	}
	if l[0].T < m.floor {
		return m, impl.EgLate
	}
	if next := m.with(key, l); !slowTooMuch(next.all()) {
		return next, impl.EgOk
	}
	return m, impl.EgFull
}

// somePuts are points by chance near the floor, now and then below it or not right.
func somePuts(r *rand.Rand, floor int) []impl.Point {
	if r.IntN(30) == 0 {
		return somePoints(r)
	}
	first := max(0, floor+pick(r, r.IntN(60), r.IntN(60), r.IntN(10), 0, 0, -1))
	many := pick(r, 1, 1, 2, 3, 1+r.IntN(10), 1+r.IntN(30))
	if r.IntN(25) == 0 {
		many = pick(r, 39, 40, 41, 59, 60, 61)
	}
	var l []impl.Point
	for _, n := range evenly(first, 1+r.IntN(3), many) {
		l = append(l, impl.Point{T: n, V: r.IntN(2000) - 1000})
	}
	return l
}

func someKey(r *rand.Rand) string {
	return pick(r, "a", "a", "a", "b", "b", "c", "d", "e", "f", "g", "zzzzzzzz", pick(r, wrongKeys()...))
}

// someEngineCall is a call by chance, what the list is behind it, and the code that it is to answer.
func someEngineCall(r *rand.Rand, m putList) (engineCall, putList, int) {
	switch r.IntN(20) {
	case 0, 1:
		return flushCall(), m, 0
	case 2:
		return packCall(), m, 0
	case 3, 4:
		to := m.floor + pick(r, -1, 0, 1, 2, r.IntN(20), r.IntN(20), r.IntN(80))
		if r.IntN(20) == 0 {
			to = pick(r, math.MinInt, -1, farTime+1, math.MaxInt)
		}
		if to > m.floor && to <= farTime {
			m.floor = to
		}
		return raiseCall(to), m, 0
	}
	key, l := someKey(r), somePuts(r, m.floor)
	m, code := m.put(key, l)
	return putCall(key, l), m, code
}

func TestEnginesAgainstAList(t *testing.T) {
	r := rand.New(rand.NewPCG(10, 1))
	codes := map[int]int{}
	most, packed := 0, 0
	for range 50 {
		e, m := impl.Engine{}, putList{}
		for range 80 {
			call, next, code := someEngineCall(r, m)
			ahead := copyEngine(e)
			after, got := call.do(e)
			if got != code {
				t.Fatalf("%s of %s is %d, want %d", call.name, brief(e), got, code)
			}
			if !sameEngine(e, ahead) || code != impl.EgOk && !sameEngine(after, e) {
				t.Fatalf("%s of %s with %d made it %s, and answers %s", call.name, brief(ahead), code, brief(e), brief(after))
			}
			if !impl.EngineOk(after) || after.Floor != next.floor {
				t.Fatalf("%s of %s = %s, that is not right, or has another floor than %d", call.name, brief(e), brief(after), next.floor)
			}
			all := next.all()
			wantTold(t, "behind "+call.name, after, all)
			for _, key := range []string{"a", "b", "zzzzzzzz"} {
				from, to := next.floor+r.IntN(60)-10, next.floor+r.IntN(90)-5
				if q := impl.Query(after, key, from, to); !slices.Equal(q, slowSlice(pointsOfKey(all, key), from, to)) {
					t.Fatalf("Query of %s from %d to %d in %s = %s", key, from, to, brief(after), brief(q))
				}
			}
			codes[code]++
			most = max(most, len(after.Files))
			if len(after.Files) < len(e.Files) {
				packed++
			}
			e, m = after, next
		}
	}
	if codes[0] < 1500 || codes[1] < 100 || codes[2] < 100 || codes[3] < 100 || most != 4 || packed < 100 {
		t.Errorf("codes %v, at most %d files, %d times they became fewer", codes, most, packed)
	}
}

// Each value that was put is told by itself, wherever it was put away.
func TestEachPutIsTold(t *testing.T) {
	r := rand.New(rand.NewPCG(10, 2))
	for range 15 {
		e, m := impl.Engine{}, putList{}
		for range 40 {
			call, next, _ := someEngineCall(r, m)
			e, _ = call.do(e)
			m = next
		}
		for i, p := range m.puts {
			var want []impl.Point
			if v, _ := m.last(m.keys[i], p.T); p.T >= m.floor {
				want = pointsAt(p.T, v)
			}
			if got := impl.Query(e, m.keys[i], p.T, p.T+1); !slices.Equal(got, want) {
				t.Fatalf("Query of %s at %d = %v, want %v", m.keys[i], p.T, got, want)
			}
		}
	}
}

// someEngine is an engine that calls by chance lead to, and then, mostly, one part of it changed: right or not.
func someEngine(r *rand.Rand) impl.Engine {
	e, m := impl.Engine{}, putList{}
	for range 3 + r.IntN(25) {
		call, next, _ := someEngineCall(r, m)
		e, _ = call.do(e)
		m = next
	}
	for range r.IntN(3) {
		turnEngine(r, &e)
	}
	return e
}

func turnEngine(r *rand.Rand, e *impl.Engine) {
	switch r.IntN(9) {
	case 0:
		e.Floor += pick(r, -1, 1, -10, 10)
	case 1:
		e.Floor = pick(r, -1, 0, farTime, farTime+1, math.MinInt, math.MaxInt)
	case 2:
		e.Cache = someSeries(r)
	case 3:
		e.Files = append(e.Files, fileOf(oneSeries(pick(r, rightKeys()...), e.Floor&(farTime-1), 5)))
	case 4:
		if len(e.Files) > 0 {
			at := r.IntN(len(e.Files))
			e.Files[at] = pick(r, someText(r, e.Files[at]), "", e.Files[0])
		}
	case 5:
		r.Shuffle(len(e.Files), func(i, j int) { e.Files[i], e.Files[j] = e.Files[j], e.Files[i] })
	case 6:
		if len(e.Cache) > 0 {
			s := &e.Cache[r.IntN(len(e.Cache))]
			s.Points = pick(r, nil, somePoints(r), s.Points[len(s.Points)/2:], append(s.Points, pointsAt(e.Floor+500, 1)...))
		}
	case 7:
		if len(e.Cache) > 0 {
			e.Cache[r.IntN(len(e.Cache))].Key = pick(r, someKey(r), "")
		}
	case 8:
		e.Files = append(e.Files, e.Files...)
	}
}

func TestEnginesAgainstTheWords(t *testing.T) {
	r := rand.New(rand.NewPCG(10, 3))
	right, not := 0, 0
	for range 1200 {
		e := someEngine(r)
		ok := slowEngineOk(e)
		if got := impl.EngineOk(e); got != ok {
			t.Fatalf("EngineOk(%s) = %v", brief(e), got)
		}
		if ok {
			right++
		} else {
			not++
		}
		wantTold(t, "by chance", e, slowPlain(e))
		key := someKey(r)
		from, to := e.Floor+r.IntN(50)-10, e.Floor+r.IntN(90)-10
		wantQuery(t, "by chance", e, key, from, to, slowQuery(e, key, from, to))
		for _, call := range []engineCall{flushCall(), packCall(), raiseCall(e.Floor + r.IntN(40) - 5), raiseCall(pick(r, 0, farTime, farTime+1)), putCall(key, somePuts(r, e.Floor)), putCall("a", somePuts(r, e.Floor))} {
			wantAsSaid(t, "by chance", call, e)
		}
	}
	if right < 400 || not < 400 {
		t.Errorf("%d right, %d not", right, not)
	}
}

// spareEngine is the engine with room behind each list, and what stands there.
func spareEngine(e impl.Engine) impl.Engine {
	var files []string
	for _, text := range e.Files {
		files = append(files, strings.Clone(text))
	}
	return impl.Engine{Floor: e.Floor, Cache: spareSeries(e.Cache), Files: append(files, "room", "more")[:len(files)]}
}

// sameEngineWithRoom asks whether the engine, and what stands behind its lists, are as spareEngine made them.
func sameEngineWithRoom(a, b impl.Engine) bool {
	return a.Floor == b.Floor && sameWithRoom(a.Cache, b.Cache) && slices.Equal(a.Files[:len(a.Files)+2], b.Files[:len(b.Files)+2])
}

func spoilSeries(l []impl.Series) {
	for _, s := range l {
		spoil(s.Points)
	}
	l = l[:cap(l)]
	for i := range l {
		l[i] = impl.Series{Key: "spoilt"}
	}
}

func spoilEngine(e impl.Engine) {
	spoilSeries(e.Cache)
	files := e.Files[:cap(e.Files)]
	for i := range files {
		files[i] = "spoilt"
	}
}

// textsIn are the keys and files of an engine.
func textsIn(e impl.Engine) []string {
	l := slices.Clone(e.Files)
	for _, s := range e.Cache {
		l = append(l, s.Key)
	}
	return l
}

// wantNewTexts wants none of the texts to lie in another one.
func wantNewTexts(t *testing.T, name string, got, other []string) {
	t.Helper()
	for _, a := range got {
		for _, b := range other {
			if sharesBytes(a, b) || sharesBytes(b, a) {
				t.Fatalf("%s: %s is memory of an argument, or of another answer", name, brief(a))
			}
		}
	}
}

func memoryEngines() []impl.Engine {
	bad, overfull := richEngine(), fullEngine()
	bad.Floor = 21
	overfull.Files = append(overfull.Files, overfull.Files[0])
	return []impl.Engine{{}, {Floor: 9}, richEngine(), fullEngine(), bad, overfull, {Floor: 100, Files: fullEngine().Files}, {Cache: richEngine().Cache}}
}

func TestEngineAnswersNewMemory(t *testing.T) {
	keys := []string{strings.Clone("a"), strings.Clone("new"), strings.Clone("New")}
	rows := [][]impl.Point{nil, pointsAt(0, 1), pointsAt(30, 9), pointsAt(100, 1, 130, 2), pointsEvery(100, 1, 41, 3), pointsEvery(100, 1, 61, 3)}
	var calls []engineCall
	for _, key := range keys {
		for _, l := range rows {
			calls = append(calls, putCall(key, sparePoints(l)))
		}
	}
	calls = append(calls, flushCall(), packCall())
	for _, n := range []int{-1, 0, 20, 21, 22, 31, 100, 101, 150, farTime, farTime + 1} {
		calls = append(calls, raiseCall(n))
	}
	for _, x := range memoryEngines() {
		for _, c := range calls {
			e := spareEngine(x)
			first, code := c.do(e)
			kept := copyEngine(first)
			second, _ := c.do(e)
			wantNewTexts(t, c.name, textsIn(first), slices.Concat(textsIn(e), textsIn(second), keys))
			spoilEngine(second)
			if !sameEngineWithRoom(e, spareEngine(x)) {
				t.Fatalf("%s of %s wrote into its argument, or its answer is part of it: %s", c.name, brief(x), brief(e))
			}
			spoilEngine(e)
			if !sameEngine(first, kept) {
				t.Fatalf("%s of %s with %d: the answer hangs on its argument, or on another answer: %s", c.name, brief(x), code, brief(first))
			}
			for i := range first.Cache {
				spoil(first.Cache[i].Points)
				first.Cache[i] = kept.Cache[i]
			}
			if !sameEngine(first, kept) {
				t.Fatalf("%s of %s: points of one key hang on those of another", c.name, brief(x))
			}
		}
	}
}

// The points of a Put, and the room behind them, stay as they are, and what becomes of them later changes no engine.
func TestPutKeepsNothingOfItsPoints(t *testing.T) {
	for _, x := range memoryEngines() {
		for _, points := range [][]impl.Point{pointsAt(150, 1), pointsAt(100, 1, 130, 2), pointsEvery(100, 1, 41, 3), pointsEvery(100, 1, 61, 3), pointsAt(0, 1), nil} {
			l := sparePoints(points)
			got, _ := impl.Put(x, "a", l)
			if !slices.Equal(roomOf(l), roomOf(sparePoints(points))) {
				t.Fatalf("Put wrote into its points: %s", brief(roomOf(l)))
			}
			kept := copyEngine(got)
			spoil(l)
			if !sameEngine(got, kept) {
				t.Fatalf("what Put answers hangs on its points: %s", brief(got))
			}
			spoilEngine(got)
			if again, _ := impl.Put(x, "a", points); !sameEngine(again, kept) {
				t.Fatalf("Put answers %s, and asked again %s", brief(kept), brief(again))
			}
		}
	}
}

func TestEngineTellsNewMemory(t *testing.T) {
	for _, x := range memoryEngines() {
		e := spareEngine(x)
		all, again := impl.Plain(e), impl.Plain(e)
		kept := copySeries(all)
		wantNewTexts(t, "Plain", textsIn(impl.Engine{Cache: all}), slices.Concat(textsIn(e), textsIn(impl.Engine{Cache: again})))
		spoilSeries(again)
		for _, s := range kept {
			spoil(impl.Query(e, s.Key, math.MinInt, math.MaxInt))
			found := impl.Query(e, s.Key, math.MinInt, math.MaxInt)
			spoil(impl.Query(e, s.Key, math.MinInt, math.MaxInt))
			if !slices.Equal(found, s.Points) {
				t.Fatalf("Query: an answer hangs on another one: %s", brief(found))
			}
		}
		impl.EngineOk(e)
		if !sameEngineWithRoom(e, spareEngine(x)) {
			t.Fatalf("EngineOk, Query or Plain wrote into its argument, or an answer is part of it: %s", brief(e))
		}
		spoilEngine(e)
		if !sameSeries(all, kept) {
			t.Fatalf("Plain: the answer hangs on its argument, or on another answer: %s", brief(all))
		}
		for i := range all {
			spoil(all[i].Points)
			all[i] = kept[i]
			if !sameSeries(all, kept) {
				t.Fatalf("Plain: the points of %s hang on those of another key", all[i].Key)
			}
		}
	}
}

func TestEngineAnswersAtEveryArgument(t *testing.T) {
	long := strings.Repeat("a", 100000)
	series := slices.Repeat([]impl.Series{oneSeries("a", 1, 1)}, 100000)
	for _, e := range []impl.Engine{
		{Cache: series}, {Cache: []impl.Series{{Key: long, Points: pointsAt(1, 1)}}}, {Cache: []impl.Series{{Key: "a", Points: pointsEvery(0, 1, 100000, 1)}}},
		{Files: []string{long}}, {Files: slices.Repeat([]string{long}, 4)}, {Files: slices.Repeat([]string{""}, 100000)},
		{Floor: math.MinInt, Cache: series, Files: []string{long}}, {Floor: math.MaxInt, Cache: make([]impl.Series, 10), Files: make([]string, 10)},
	} {
		wantTold(t, "far too much", e, nil)
		for _, c := range []engineCall{flushCall(), packCall(), putCall("a", pointsAt(1, 1)), putCall(long, pointsEvery(0, 1, 100000, 1))} {
			if got, _ := c.do(e); impl.EngineOk(e) || !sameEngine(got, impl.Engine{}) {
				t.Errorf("%s: EngineOk %v, and answered %s", c.name, impl.EngineOk(e), brief(got))
			}
		}
		if got := impl.Raise(e, math.MinInt); !sameEngine(got, e) {
			t.Errorf("Raise to the least number answered %s", brief(got))
		}
	}
	wantEngine(t, "far too much", putCall(long, pointsAt(1, 1)), impl.Engine{}, impl.Engine{}, impl.EgBad)
	wantEngine(t, "far too much", putCall("a", pointsEvery(0, 1, 100000, 1)), impl.Engine{}, impl.Engine{}, impl.EgBad)
}
