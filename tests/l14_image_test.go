package tests

import (
	"maps"
	"math"
	"math/rand/v2"
	"slices"
	"strings"
	"testing"

	"loop.example/g00360/impl"
)

// Promise 14: ReadState of ShowState of a right state is it; it takes nothing else.

// An image is what the text of a state is put together of, right or not; vars are the places of the Vars among its parts, sizes those of them that tell how long the next part is, counts those that tell how often what follows stands there.
type image struct {
	parts               []string
	vars, sizes, counts []int
}

func (x *image) add(part string) {
	x.parts = append(x.parts, part)
}

func (x *image) addVars(numbers ...int) {
	for _, n := range numbers {
		x.vars = append(x.vars, len(x.parts))
		x.add(slowVar(n))
	}
}

func (x *image) addCount(many int) {
	x.counts = append(x.counts, len(x.parts))
	x.addVars(many)
}

func (x *image) addSized(text string) {
	x.sizes = append(x.sizes, len(x.parts))
	x.addVars(len(text))
	x.add(text)
}

func (x image) text() string {
	return strings.Join(x.parts, "")
}

// with is the text with another part at this place.
func (x image) with(at int, part string) string {
	l := slices.Clone(x.parts)
	l[at] = part
	return strings.Join(l, "")
}

// imageOf is how a state would be shown, right or not.
func imageOf(s impl.State) image {
	cache := ""
	if len(s.Engine.Cache) > 0 {
		cache = rawFileOf(s.Engine.Cache).text()
	}
	return imageWith(s, cache)
}

// imageWith has this text in the place of the cache's.
func imageWith(s impl.State, cache string) image {
	var x image
	x.add(string([]byte{byte(s.Kind)}))
	x.addVars(s.Hold, s.Mark)
	x.addCount(len(s.Buckets))
	for _, b := range s.Buckets {
		x.addVars(b.Number, b.Shard)
	}
	x.addVars(s.Engine.Floor)
	x.addSized(cache)
	x.addCount(len(s.Engine.Files))
	for _, file := range s.Engine.Files {
		x.addSized(file)
	}
	x.addCount(len(s.Sessions))
	for _, last := range s.Sessions {
		x.addVars(last.Client, last.Serial)
		x.addSized(answerTexts().raw(last.Answer))
	}
	return x
}

// canBeShown asks whether an image can be made of it, whatever that is read as: no number is below 0, and each Series has points that a block can tell.
func canBeShown(s impl.State) bool {
	numbers := []int{s.Kind, s.Hold, s.Mark, s.Engine.Floor}
	for _, b := range s.Buckets {
		numbers = append(numbers, b.Number, b.Shard)
	}
	for _, last := range s.Sessions {
		numbers = append(numbers, last.Client, last.Serial, last.Answer.Code, last.Answer.Index, last.Answer.Mark)
	}
	dumb := slices.ContainsFunc(s.Engine.Cache, func(x impl.Series) bool { return len(x.Points) == 0 || cannotBeShown(x.Points) })
	return slices.Min(numbers) >= 0 && s.Kind < 256 && !dumb
}

// A slowCursor reads part by part from the front; where one lacks, all behind it lack, too.
type slowCursor struct {
	left  string
	lacks bool
}

func (c *slowCursor) number() int {
	n, used := slowVarAt(c.left)
	if used == 0 {
		c.left, c.lacks = "", true
	}
	c.left = c.left[used:]
	return n
}

func (c *slowCursor) text() string {
	many := c.number()
	if many > len(c.left) {
		c.left, c.lacks = "", true
		return ""
	}
	text := c.left[:many]
	c.left = c.left[many:]
	return text
}

// times does it as often as the next number says.
func (c *slowCursor) times(do func()) {
	for many := c.number(); many > 0 && !c.lacks; many-- {
		do()
	}
}

// slowReadState takes the parts one by one, and the text only if it is that of the right state that they come to.
func slowReadState(text string) (impl.State, bool) {
	if text == "" {
		return impl.State{}, false
	}
	s, c := impl.State{Kind: int(text[0])}, slowCursor{left: text[1:]}
	s.Hold, s.Mark = c.number(), c.number()
	c.times(func() {
		number := c.number()
		s.Buckets = append(s.Buckets, impl.Bucket{Number: number, Shard: c.number()})
	})
	s.Engine.Floor = c.number()
	s.Engine.Cache, _ = slowReadFile(c.text())
	c.times(func() { s.Engine.Files = append(s.Engine.Files, c.text()) })
	c.times(func() {
		client := c.number()
		serial := c.number()
		answer, _ := slowReadAnswer(c.text())
		s.Sessions = append(s.Sessions, impl.Session{Client: client, Serial: serial, Answer: answer})
	})
	if c.lacks || !slowStateOk(s) || imageOf(s).text() != text {
		return impl.State{}, false
	}
	return s, true
}

// wantImage wants the state shown as this text, and the text read as the state.
func wantImage(t *testing.T, name string, s impl.State, want string) {
	t.Helper()
	if text := impl.ShowState(s); text != want {
		t.Fatalf("%s: ShowState(%s)\n= %s\nwant %s", name, brief(s), brief(text), brief(want))
	}
	if got, ok := impl.ReadState(want); !ok || !sameState(got, s) {
		t.Fatalf("%s: ReadState(%s)\n= %s, %v\nwant %s", name, brief(want), brief(got), ok, brief(s))
	}
	if said, ok := slowReadState(want); !ok || !sameState(said, s) || imageOf(s).text() != want {
		t.Fatalf("%s: the words read %s\nas %s, %v, and show %s\nas %s", name, brief(want), brief(said), ok, brief(s), brief(imageOf(s).text()))
	}
}

// wantNoImage wants a text that no state is read from.
func wantNoImage(t *testing.T, name, text string) {
	t.Helper()
	if got, ok := impl.ReadState(text); ok || !sameState(got, impl.State{}) {
		t.Fatalf("%s: ReadState(%s)\n= %s, %v", name, brief(text), brief(got), ok)
	}
	if said, ok := slowReadState(text); ok || !sameState(said, impl.State{}) {
		t.Fatalf("%s: the words read %s\nas %s, %v", name, brief(text), brief(said), ok)
	}
}

// wantState wants the state shown and read back where it is right; else shown as nothing, and what would be its text not read.
func wantState(t *testing.T, name string, s impl.State, right bool) {
	t.Helper()
	if slowStateOk(s) != right {
		t.Fatalf("%s: is %s right? The words say %v", name, brief(s), !right)
	}
	if right {
		wantImage(t, name, s, imageOf(s).text())
		return
	}
	if text := impl.ShowState(s); text != "" {
		t.Fatalf("%s: ShowState(%s)\n= %s", name, brief(s), brief(text))
	}
	if canBeShown(s) {
		wantNoImage(t, name, imageOf(s).text())
	}
}

// wantImageWords wants the text read as the words say, and what is read shown as the text again.
func wantImageWords(t *testing.T, name, text string) bool {
	t.Helper()
	said, right := slowReadState(text)
	got, ok := impl.ReadState(text)
	if ok != right || !sameState(got, said) {
		t.Fatalf("%s: ReadState(%s)\n= %s, %v\nwant %s, %v", name, brief(text), brief(got), ok, brief(said), right)
	}
	if ok && impl.ShowState(got) != text {
		t.Fatalf("%s: ReadState(%s)\n= %s, that is shown as %s", name, brief(text), brief(got), brief(impl.ShowState(got)))
	}
	return ok
}

// The file of a with the point 5: 1.
const oneFile = "tsb1" + oneBlock + "\x01a\x04\x0b\x05\x05\x00\x00\x00\x0f\x92\xf5\x7d\x74"

// The file of cpu with the points 10: 1 and 20: -1.
const twoFile = "tsb1" + twoBlock + "\x03cpu\x04\x0d\x0a\x14\x00\x00\x00\x11\x1c\x97\x61\x90"

// The file of both.
const bothFile = "tsb1" + oneBlock + twoBlock + "\x01a\x04\x0b\x05\x05\x03cpu\x0f\x0d\x0a\x14\x00\x00\x00\x1c\xc1\x1d\x4b\xfc"

// Their lengths as Vars, and they.
const sizedOne, sizedTwo, sizedBoth = "\x1d" + oneFile, "\x21" + twoFile, "\x32" + bothFile

// What a state is that has no more than what stands ahead: no Floor, no Cache, no Files, no Sessions.
const noMore = "\x00\x00\x00\x00"

func TestMetaImages(t *testing.T) {
	told := impl.Answer{Code: impl.AnOk, Index: 130, Mark: 250, Data: "\x02\x00"}
	for _, c := range []struct {
		s    impl.State
		want string
	}{
		{metaState(0, 0), "\x01\x00\x00\x00" + noMore},
		{metaState(1, 0), "\x01\x01\x00\x00" + noMore},
		{metaState(0, 1), "\x01\x00\x01\x00" + noMore},
		{metaState(30, 250), "\x01\x1e\xfa\x01\x00" + noMore},
		{metaState(100000, farTime), "\x01\xa0\x8d\x06" + farVar + "\x00" + noMore},
		{metaState(0, 0, dealt(0, 0)...), "\x01\x00\x00\x01\x00\x00" + noMore},
		{metaState(0, 0, dealt(5, 1)...), "\x01\x00\x00\x01\x05\x01" + noMore},
		{metaState(30, 250, dealt(2, 0, 3, 1, 128, 1)...), "\x01\x1e\xfa\x01\x03\x02\x00\x03\x01\x80\x01\x01" + noMore},
		{metaState(0, 0, dealt(farBucket, 1)...), "\x01\x00\x00\x01\xf5\xd1\xf0\xfa\x28\x01" + noMore},
		{metaState(0, 0, inTurn(0, 12)...), "\x01\x00\x00\x0c\x00\x00\x01\x01\x02\x00\x03\x01\x04\x00\x05\x01\x06\x00\x07\x01\x08\x00\x09\x01\x0a\x00\x0b\x01" + noMore},
		{withSessions(metaState(0, 0), impl.Session{Client: 1, Serial: 1}), "\x01\x00\x00\x00\x00\x00\x00\x01\x01\x01\x03\x00\x00\x00"},
		{withSessions(metaState(0, 0), impl.Session{Client: 4, Serial: 1000000, Answer: told}), "\x01\x00\x00\x00\x00\x00\x00\x01\x04\xc0\x84\x3d\x07\x00\x82\x01\xfa\x01\x02\x00"},
		{withSessions(metaState(30, 250, dealt(2, 0, 7, 1)...), impl.Session{Client: 1, Serial: 5, Answer: told}, impl.Session{Client: 3, Serial: 200, Answer: impl.Answer{Code: impl.AnFull, Index: 9}}),
			"\x01\x1e\xfa\x01\x02\x02\x00\x07\x01\x00\x00\x00\x02\x01\x05\x07\x00\x82\x01\xfa\x01\x02\x00\x03\xc8\x01\x03\x03\x09\x00"},
	} {
		wantImage(t, "by hand", c.s, c.want)
	}
}

func TestShardImages(t *testing.T) {
	a, cpu := oneSeries("a", 5, 1), oneSeries("cpu", 10, 1, 20, -1)
	engine := func(floor int, cache []impl.Series, files ...string) impl.Engine {
		return impl.Engine{Floor: floor, Cache: cache, Files: files}
	}
	read := impl.Session{Client: 2, Serial: 1, Answer: impl.Answer{Index: 5, Mark: 3, Data: oneBlock}}
	readText := "\x02\x01\x0e\x00\x05\x03" + oneBlock
	long := impl.Session{Client: 3, Serial: 127, Answer: impl.Answer{Code: 4, Index: 100000, Mark: farTime, Data: strings.Repeat("d", 900)}}
	longText := "\x03\x7f\x8e\x07\x04\xa0\x8d\x06" + farVar + strings.Repeat("d", 900)
	for _, c := range []struct {
		s    impl.State
		want string
	}{
		{shardState(impl.Engine{}), "\x02\x00\x00\x00" + noMore},
		{shardState(engine(1, nil)), "\x02\x00\x00\x00\x01\x00\x00\x00"},
		{shardState(engine(farTime, nil)), "\x02\x00\x00\x00" + farVar + "\x00\x00\x00"},
		{shardState(engine(0, []impl.Series{a})), "\x02\x00\x00\x00\x00" + sizedOne + "\x00\x00"},
		{shardState(engine(5, []impl.Series{a})), "\x02\x00\x00\x00\x05" + sizedOne + "\x00\x00"},
		{shardState(engine(0, []impl.Series{a, cpu})), "\x02\x00\x00\x00\x00" + sizedBoth + "\x00\x00"},
		{shardState(engine(0, nil, oneFile)), "\x02\x00\x00\x00\x00\x00\x01" + sizedOne + "\x00"},
		{shardState(engine(300, nil, oneFile, twoFile)), "\x02\x00\x00\x00\xac\x02\x00\x02" + sizedOne + sizedTwo + "\x00"},
		{shardState(engine(0, nil, oneFile, oneFile, bothFile, twoFile)), "\x02\x00\x00\x00\x00\x00\x04" + sizedOne + sizedOne + sizedBoth + sizedTwo + "\x00"},
		{shardState(engine(7, []impl.Series{cpu}, oneFile)), "\x02\x00\x00\x00\x07" + sizedTwo + "\x01" + sizedOne + "\x00"},
		{withSessions(shardState(impl.Engine{}), read), "\x02\x00\x00\x00\x00\x00\x00\x01" + readText},
		{withSessions(shardState(engine(3, []impl.Series{a})), read), "\x02\x00\x00\x00\x03" + sizedOne + "\x00\x01" + readText},
		{withSessions(shardState(engine(3, nil, oneFile)), read), "\x02\x00\x00\x00\x03\x00\x01" + sizedOne + "\x01" + readText},
		{withSessions(shardState(engine(3, []impl.Series{a, cpu}, twoFile, oneFile)), read, long), "\x02\x00\x00\x00\x03" + sizedBoth + "\x02" + sizedTwo + sizedOne + "\x02" + readText + longText},
	} {
		wantImage(t, "by hand", c.s, c.want)
	}
}

// A length of two bytes and of three: of the cache, of a file, and of an answer.
func TestImagesOfLongTexts(t *testing.T) {
	long := []impl.Series{{Key: "abcdefgh", Points: pointsEvery(farTime-39, 1, 40, farTime)}}
	longest := fileOf(seriesOf(swinging(60), "aaaaaaaa", "bbbbbbbb", "cccccccc", "dddddddd", "eeeeeeee")...)
	cache := fileOf(long...)
	for _, data := range []int{0, 1, 123, 124, 125, 126, 899, 900} {
		told := impl.Answer{Code: 1, Index: 2, Mark: 3, Data: strings.Repeat("\x80", data)}
		s := withSessions(shardState(impl.Engine{Floor: 9, Cache: long}), impl.Session{Client: 1, Serial: 1, Answer: told})
		wantImage(t, "a cache and an answer", s, "\x02\x00\x00\x00\x09"+slowVar(len(cache))+cache+"\x00\x01\x01\x01"+slowVar(3+data)+"\x01\x02\x03"+told.Data)
	}
	if !within(len(cache), 129, 16383) || !within(len(longest), 3000, 16383) {
		t.Errorf("%d and %d bytes", len(cache), len(longest))
	}
	for _, files := range [][]string{{longest}, {cache}, {cache, oneFile, cache}, {longest, longest}} {
		want := "\x02\x00\x00\x00\x00\x00" + slowVar(len(files))
		for _, file := range files {
			want += slowVar(len(file)) + file
		}
		wantImage(t, "files", shardState(impl.Engine{Files: files}), want+"\x00")
	}
}

// swinging are many points whose values swing from end to end, and whose times are far and near in turn: what takes the most bytes.
func swinging(many int) []impl.Point {
	var l []impl.Point
	for i := range many {
		n := i * (farTime / 60)
		if i%2 == 1 {
			n = (i-1)*(farTime/60) + 1
		}
		l = append(l, impl.Point{T: n, V: farTime * (1 - 2*(i%2))})
	}
	return l
}

// The longest state has room in a snapshot.
func TestImagesFitASnap(t *testing.T) {
	keys := []string{"aaaaaaaa", "bbbbbbbb", "cccccccc", "dddddddd", "eeeeeeee"}
	e := impl.Engine{Cache: seriesOf(swinging(8), keys...), Files: slices.Repeat([]string{fileOf(seriesOf(swinging(60), keys...)...)}, 4)}
	var sessions []impl.Session
	for client := 1; client <= 4; client++ {
		sessions = append(sessions, impl.Session{Client: client, Serial: 1000000, Answer: impl.Answer{Code: 4, Index: 100000, Mark: farTime, Data: strings.Repeat("\xff", 900)}})
	}
	s := withSessions(shardState(e), sessions...)
	wantState(t, "the longest", s, true)
	if text := impl.ShowState(s); !within(len(text), 18000, impl.MaxSnap) || !impl.SnapOk(impl.Snap{Index: 1, Term: 1, Data: text}) {
		t.Errorf("%d bytes", len(text))
	}
	meta := withSessions(metaState(100000, farTime-1200, inTurn(farBucket-11, 12)...), sessions...)
	wantState(t, "the longest of a meta", meta, true)
}

// Each edge of a right state and one past it: each field, and each reason for which a state is not right.
func TestImagesAtTheEdges(t *testing.T) {
	right, not, shown := 0, 0, 0
	for _, c := range stateCases() {
		wantState(t, c.name, c.s, c.want)
		if c.want {
			right++
		} else {
			not++
		}
		if !c.want && canBeShown(c.s) {
			shown++
		}
	}
	if right < 120 || not < 1000 || shown < 1000 {
		t.Errorf("%d right, %d not, and a text could be made of %d of these", right, not, shown)
	}
}

// A stateFault makes a right state one that is not right, by one reason.
type stateFault struct {
	name string
	of   int
	do   func(s *impl.State)
}

// anyKind are faults of states of both kinds.
const anyKind = 0

func sessionFaults() []stateFault {
	add := func(l ...impl.Session) func(s *impl.State) {
		return func(s *impl.State) { s.Sessions = append(slices.Clone(s.Sessions), l...) }
	}
	l := []stateFault{
		{"client 0", anyKind, func(s *impl.State) { s.Sessions = append([]impl.Session{sessionAt(0, 1)}, s.Sessions...) }}, {"client 5", anyKind, add(sessionAt(5, 1))}, {"client -1", anyKind, add(sessionAt(-1, 1))},
		{"a client twice", anyKind, add(sessionAt(4, 1), sessionAt(4, 1))}, {"clients that fall", anyKind, add(sessionAt(4, 1), sessionAt(3, 1))},
		{"serial 0", anyKind, add(sessionAt(4, 0))}, {"serial -1", anyKind, add(sessionAt(4, -1))}, {"serial MaxSerial + 1", anyKind, add(sessionAt(4, 1000001))}, {"the greatest serial", anyKind, add(sessionAt(4, math.MaxInt))},
	}
	for i, a := range wrongAnswers() {
		l = append(l, stateFault{"an answer that is not right " + impl.Dec(i), anyKind, add(impl.Session{Client: 4, Serial: 1, Answer: a})})
	}
	return l
}

func metaFaults() []stateFault {
	add := func(numbers ...int) func(s *impl.State) {
		return func(s *impl.State) { s.Buckets = append(slices.Clone(s.Buckets), dealt(numbers...)...) }
	}
	return []stateFault{
		{"Hold -1", impl.KdMeta, func(s *impl.State) { s.Hold = -1 }}, {"Hold MaxHold + 1", impl.KdMeta, func(s *impl.State) { s.Hold = 100001 }}, {"Mark -1", impl.KdMeta, func(s *impl.State) { s.Mark = -1 }}, {"Mark MaxTime + 1", impl.KdMeta, func(s *impl.State) { s.Mark = farTime + 1 }},
		{"MaxBuckets + 1", impl.KdMeta, func(s *impl.State) { s.Buckets = inTurn(500, 13) }}, {"Numbers that stay", impl.KdMeta, add(900, 0, 900, 1)}, {"Numbers that fall", impl.KdMeta, add(901, 0, 900, 1)}, {"Number -1", impl.KdMeta, func(s *impl.State) { s.Buckets = append(dealt(-1, 0), s.Buckets...) }},
		{"one more than the last bucket", impl.KdMeta, add(farBucket+1, 0)}, {"Shard 2", impl.KdMeta, add(900, 2)}, {"Shard -1", impl.KdMeta, add(900, -1)}, {"just past", impl.KdMeta, func(s *impl.State) { s.Mark, s.Buckets = 600, dealt(5, 0, 6, 1) }},
		{"a Floor", impl.KdMeta, func(s *impl.State) { s.Engine.Floor = 1 }}, {"a Cache", impl.KdMeta, func(s *impl.State) { s.Engine.Cache = []impl.Series{oneSeries("a", 5, 1)} }}, {"a file", impl.KdMeta, func(s *impl.State) { s.Engine.Files = []string{oneFile} }}, {"an empty file", impl.KdMeta, func(s *impl.State) { s.Engine.Files = []string{""} }},
		{"Kind 0", impl.KdMeta, func(s *impl.State) { s.Kind = 0 }}, {"Kind 3", impl.KdMeta, func(s *impl.State) { s.Kind = 3 }},
	}
}

func shardFaults() []stateFault {
	file := func(text string) func(s *impl.State) {
		return func(s *impl.State) { s.Engine.Files = append(slices.Clone(s.Engine.Files), text) }
	}
	cache := func(l ...impl.Series) func(s *impl.State) { return func(s *impl.State) { s.Engine.Cache = l } }
	return []stateFault{
		{"Hold 1", impl.KdShard, func(s *impl.State) { s.Hold = 1 }}, {"Mark 1", impl.KdShard, func(s *impl.State) { s.Mark = 1 }}, {"a bucket", impl.KdShard, func(s *impl.State) { s.Buckets = dealt(0, 0) }},
		{"Floor -1", impl.KdShard, func(s *impl.State) { s.Engine.Floor = -1 }}, {"Floor MaxTime + 1", impl.KdShard, func(s *impl.State) { s.Engine.Floor = farTime + 1 }},
		{"MaxCache + 1 points", impl.KdShard, cache(impl.Series{Key: "a", Points: pointsEvery(500, 1, 41, 1)})}, {"a T below Floor", impl.KdShard, cache(oneSeries("a", 19, 1))}, {"keys that fall", impl.KdShard, cache(oneSeries("b", 500, 1), oneSeries("a", 500, 1))}, {"a key that is none", impl.KdShard, cache(oneSeries("A", 500, 1))}, {"a Series without points", impl.KdShard, cache(impl.Series{Key: "a"})}, {"times that fall", impl.KdShard, cache(oneSeries("a", 501, 1, 500, 1))}, {"a V beyond MaxValue", impl.KdShard, cache(oneSeries("a", 501, farTime+1))},
		{"an empty file", impl.KdShard, file("")}, {"a file with a byte turned", impl.KdShard, file(withByte(oneFile, 12, 7))}, {"a file cut off", impl.KdShard, file(oneFile[:28])}, {"a file and a byte more", impl.KdShard, file(oneFile + "\x00")},
		{"MaxFiles + 1", impl.KdShard, func(s *impl.State) { s.Engine.Files = slices.Repeat([]string{oneFile}, 5) }}, {"MaxSeries + 1 keys", impl.KdShard, file(keysFile(500, "v", "w", "x", "y", "z"))}, {"MaxPoints + 1 points", impl.KdShard, file(fileOf(impl.Series{Key: "a", Points: pointsEvery(500, 1, 60, 1)}))},
		{"Kind 0", impl.KdShard, func(s *impl.State) { s.Kind = 0 }}, {"Kind 3", impl.KdShard, func(s *impl.State) { s.Kind = 3 }},
	}
}

// Each reason by itself, and each two and some three at once.
func TestImagesWithSeveralFaults(t *testing.T) {
	faults := slices.Concat(sessionFaults(), metaFaults(), shardFaults())
	shown := 0
	for _, s := range []impl.State{withSessions(richMeta(), sessionAt(1, 5)), withSessions(richShard(), sessionAt(2, 7))} {
		for i, a := range faults {
			for j, b := range faults[i:] {
				c := faults[(i+7*j)%len(faults)]
				if slices.ContainsFunc([]stateFault{a, b, c}, func(f stateFault) bool { return f.of != anyKind && f.of != s.Kind }) {
					continue
				}
				for _, l := range [][]stateFault{{a}, {a, b}, {a, b, c}} {
					x := copyState(s)
					name := ""
					for _, f := range l {
						f.do(&x)
						name += f.name + "; "
					}
					wantState(t, name, x, false)
					if canBeShown(x) {
						shown++
					}
				}
			}
		}
	}
	if shown < 500 {
		t.Errorf("a text could be made of %d", shown)
	}
}

// The samples are short, of each kind, with and without each list, and with Vars of several bytes.
func sampleStates() []impl.State {
	a, cpu := oneSeries("a", 5, 1), oneSeries("cpu", 10, 1, 20, -1)
	told := impl.Session{Client: 1, Serial: 300, Answer: impl.Answer{Code: 2, Index: 130, Mark: 7, Data: "zz"}}
	none := impl.Session{Client: 4, Serial: 1}
	return []impl.State{
		metaState(0, 0), metaState(300, 250, dealt(2, 0, 130, 1)...), withSessions(metaState(0, 0), told), withSessions(metaState(5, 0, dealt(0, 1)...), told, none),
		shardState(impl.Engine{}), shardState(impl.Engine{Floor: 300}), shardState(impl.Engine{Cache: []impl.Series{a}}), shardState(impl.Engine{Files: []string{twoFile}}),
		withSessions(shardState(impl.Engine{}), none), withSessions(shardState(impl.Engine{Floor: 2, Cache: []impl.Series{cpu}, Files: []string{oneFile, oneFile}}), told, none),
	}
}

// A text ends just where its last part does: no beginning of it, and nothing that goes on behind it, is one.
func TestImagesCutOff(t *testing.T) {
	l := append(sampleStates(), richMeta(), fullMeta(), richShard(), fullShard())
	for _, s := range l {
		text := impl.ShowState(s)
		wantImage(t, "whole", s, imageOf(s).text())
		for at := range len(text) {
			wantNoImage(t, "a beginning", text[:at])
		}
		for b := range 256 {
			wantNoImage(t, "a byte behind it", text+string([]byte{byte(b)}))
		}
		for _, other := range l {
			wantNoImage(t, "another one behind it", text+impl.ShowState(other))
		}
		for b := range 256 {
			wantImageWords(t, "a byte ahead of it", string([]byte{byte(b)})+text)
		}
	}
}

// Each byte turned to each other value, taken away, and each put in at each place.
func TestImagesThatAreNearlyRight(t *testing.T) {
	read := 0
	for _, s := range sampleStates() {
		text := impl.ShowState(s)
		for at := range len(text) + 1 {
			wantImageWords(t, "the end alone", text[at:])
			wantImageWords(t, "turned about", text[at:]+text[:at])
			for b := range 256 {
				c := string([]byte{byte(b)})
				if wantImageWords(t, "a byte more", text[:at]+c+text[at:]) {
					read++
				}
				if at < len(text) && wantImageWords(t, "a byte turned", text[:at]+c+text[at+1:]) {
					read++
				}
			}
			if at < len(text) {
				wantImageWords(t, "a byte less", text[:at]+text[at+1:])
				wantImageWords(t, "a byte twice", text[:at+1]+text[at:])
			}
		}
	}
	if read < 5000 {
		t.Errorf("%d were read", read)
	}
}

// No byte of a cache or a file may be another one: each has a sum.
func TestImagesWithABrokenSum(t *testing.T) {
	for _, s := range []impl.State{shardState(impl.Engine{Cache: []impl.Series{oneSeries("a", 5, 1)}}), shardState(impl.Engine{Files: []string{twoFile}}), richShard()} {
		x := imageOf(s)
		for _, at := range x.sizes {
			part := x.parts[at+1]
			if len(part) < 12 {
				continue
			}
			for i := range len(part) {
				for _, bit := range []byte{1, 16, 128} {
					wantNoImage(t, "a byte turned", x.with(at+1, withByte(part, i, part[i]^bit)))
				}
			}
		}
	}
}

// Vars that are longer than they must be, that are none, or beyond every int, in the place of each Var.
func TestImagesWithStrangeVars(t *testing.T) {
	for _, s := range append(sampleStates(), richMeta(), richShard()) {
		x := imageOf(s)
		for _, at := range x.vars {
			part := x.parts[at]
			for range 9 {
				part = longer(part)
				wantNoImage(t, "a Var longer than it must be", x.with(at, part))
			}
			for name, part := range strangeVars() {
				wantImageWords(t, name, x.with(at, part))
				if len(part) > 1 {
					wantNoImage(t, name, x.with(at, part))
				}
			}
		}
	}
}

// Numbers about all edges in the place of each Var.
func TestImagesWithNumbersOutOfRange(t *testing.T) {
	near := []int{0, 1, 2, 3, 4, 5, 11, 12, 13, 99, 100, 127, 128, 129, 255, 256, 16383, 16384, 99999, 100000, 100001, 999999, 1000000, 1000001, farBucket - 1, farBucket, farBucket + 1, farTime - 1, farTime, farTime + 1, 1 << 42, 1 << 47, impl.MaxVar}
	read, not := 0, 0
	for _, s := range append(sampleStates(), richMeta(), fullMeta(), richShard()) {
		x := imageOf(s)
		for _, at := range x.vars {
			for _, n := range near {
				if wantImageWords(t, "a number", x.with(at, slowVar(n))) {
					read++
				} else {
					not++
				}
			}
		}
	}
	if read < 500 || not < 1000 {
		t.Errorf("%d were read, %d not", read, not)
	}
}

// A length or a count that tells less or more than there is, up to far beyond the end of the text.
func TestImagesWithWrongLengths(t *testing.T) {
	for _, s := range append(sampleStates(), richMeta(), fullMeta(), richShard()) {
		x := imageOf(s)
		for _, at := range slices.Concat(x.sizes, x.counts) {
			rest := len(strings.Join(x.parts[at+1:], ""))
			near := []int{rest - 2, rest - 1, rest, rest + 1, rest + 2, 1 << 20, 1 << 31, 1 << 32, 1 << 48, impl.MaxVar - 1, impl.MaxVar, impl.MaxVar + 1, 1 << 62, math.MaxInt}
			for n := range 60 {
				near = append(near, n)
			}
			for _, n := range near {
				if text := x.with(at, slowVar(max(n, 0))); text != x.text() {
					wantImageWords(t, "another length or count", text)
					if n > rest {
						wantNoImage(t, "a length or a count past the end", text)
					}
				}
			}
			// As much as there is, and a power of 2 that an int of fewer bits would lose.
			here, _ := slowVarAt(x.parts[at])
			for _, more := range []int{1 << 8, 1 << 16, 1 << 32, 1 << 48} {
				wantNoImage(t, "far more", x.with(at, slowVar(here+more)))
			}
		}
	}
}

// Counts that the text bears out, but that no right state has.
func TestImagesWithTooMany(t *testing.T) {
	for name, s := range map[string]impl.State{"buckets": metaState(0, 0, inTurn(0, 12)...), "sessions": withSessions(metaState(0, 0), allSessions()...), "files": shardState(impl.Engine{Files: slices.Repeat([]string{oneFile}, 4)})} {
		wantState(t, name, s, true)
	}
	for name, s := range map[string]impl.State{"buckets": metaState(0, 0, inTurn(0, 13)...), "sessions": withSessions(metaState(0, 0), append(allSessions(), sessionAt(5, 1))...), "files": shardState(impl.Engine{Files: slices.Repeat([]string{oneFile}, 5)})} {
		wantState(t, "one more: "+name, s, false)
	}
	for _, many := range []int{13, 14, 100, 127, 128, 1000, 10000} {
		wantNoImage(t, "buckets", "\x01\x00\x00"+slowVar(many)+toldRoute(inTurn(0, many))+noMore)
		wantNoImage(t, "the zero Bucket", "\x01\x00\x00"+slowVar(many)+strings.Repeat("\x00\x00", many)+noMore)
		wantNoImage(t, "files", "\x02\x00\x00\x00\x00\x00"+slowVar(many)+strings.Repeat(sizedOne, many)+"\x00")
		wantNoImage(t, "empty files", "\x02\x00\x00\x00\x00\x00"+slowVar(many)+strings.Repeat("\x00", many)+"\x00")
		wantNoImage(t, "sessions", "\x02\x00\x00\x00\x00\x00\x00"+slowVar(many)+strings.Repeat("\x01\x01\x03\x00\x00\x00", many))
	}
}

// noFiles are texts that ReadFile takes none of; the empty one, too.
func noFiles() map[string]string {
	l := turnedFiles([]impl.Series{oneSeries("a", 5, 1), oneSeries("cpu", 10, 1, 20, -1)})
	for name, text := range map[string]string{
		"a byte": "\x00", "the start alone": "tsb1", "a word": "file", "the sum of nothing": summed(""), "no series": rawFile{start: "tsb1", begin: 4}.text(), "a block": oneBlock, "two in one": oneFile + oneFile, "a byte ahead": "\x00" + oneFile, "a byte behind": oneFile + "\x00", "cut off": oneFile[:28], "its length, too": sizedOne,
		"six keys": rawFileOf(seriesOf(pointsAt(5, 1), "a", "b", "c", "d", "e", "f")).text(), "61 points": rawFileOf(seriesOf(pointsEvery(0, 1, 61, 0), "a")).text(), "keys that fall": rawFileOf(seriesOf(pointsAt(5, 1), "b", "a")).text(), "a key twice": rawFileOf(seriesOf(pointsAt(5, 1), "a", "a")).text(),
		"a key that is none": rawFileOf(seriesOf(pointsAt(5, 1), "A")).text(), "a key of no byte": rawFileOf(seriesOf(pointsAt(5, 1), "")).text(), "a key too long": rawFileOf(seriesOf(pointsAt(5, 1), "aaaaaaaaa")).text(), "times that stay": rawFileOf(seriesOf(pointsAt(5, 1, 5, 1), "a")).text(), "a T beyond MaxTime": rawFileOf(seriesOf(pointsAt(farTime+1, 1), "a")).text(), "a V beyond MaxValue": rawFileOf(seriesOf(pointsAt(5, farTime+1), "a")).text(),
		"the text of a state": "\x02\x00\x00\x00" + noMore, "far too long": strings.Repeat("t", 100000),
	} {
		l[name] = text
	}
	return l
}

func TestImagesWithACacheOrAFileThatIsNone(t *testing.T) {
	plain := shardState(impl.Engine{})
	session := sessionAt(2, 3)
	for name, text := range noFiles() {
		if _, ok := slowReadFile(text); ok {
			t.Fatalf("%s is a file", name)
		}
		wantNoImage(t, "the cache: "+name, imageWith(plain, text).text())
		wantNoImage(t, "the cache, with a file: "+name, imageWith(withSessions(shardState(impl.Engine{Files: []string{twoFile}}), session), text).text())
		for _, files := range [][]string{{text}, {text, oneFile}, {oneFile, text}, {oneFile, text, twoFile, twoFile}, {oneFile, twoFile, oneFile, text}, {text, text}} {
			for _, floor := range []int{0, 100, farTime} {
				wantState(t, "a file: "+name, withSessions(shardState(impl.Engine{Floor: floor, Files: files}), session), false)
			}
		}
		// A meta has neither, right or not.
		wantNoImage(t, "the cache of a meta: "+name, imageWith(metaState(0, 0), text).text())
		wantState(t, "a file of a meta: "+name, impl.State{Kind: impl.KdMeta, Engine: impl.Engine{Files: []string{text}}}, false)
	}
	// The empty text is a cache without points, but no file.
	wantImage(t, "no cache", plain, imageWith(plain, "").text())
	wantNoImage(t, "a file without bytes", "\x02\x00\x00\x00\x00\x00\x01\x00\x00")
	wantNoImage(t, "two files without bytes", "\x02\x00\x00\x00\x00\x00\x02\x00\x00\x00")
}

// Texts whose parts can all be read, each by itself, and whose state is not right.
func TestImagesWhoseStateIsNotRight(t *testing.T) {
	forty := fileOf(impl.Series{Key: "a", Points: pointsEvery(0, 1, 41, 1)})
	for name, text := range map[string]string{
		"kind 0": "\x00\x00\x00\x00" + noMore, "kind 3": "\x03\x00\x00\x00" + noMore, "kind 255": "\xff\x00\x00\x00" + noMore, "a kind as a Var of two bytes": "\x81\x00\x00\x00\x00" + noMore,
		"a shard with Hold": "\x02\x01\x00\x00" + noMore, "a shard with Mark": "\x02\x00\x01\x00" + noMore, "a shard with a bucket": "\x02\x00\x00\x01\x00\x00" + noMore,
		"a meta with Floor": "\x01\x00\x00\x00\x01\x00\x00\x00", "a meta with a cache": "\x01\x00\x00\x00\x00" + sizedOne + "\x00\x00", "a meta with a file": "\x01\x00\x00\x00\x00\x00\x01" + sizedOne + "\x00", "a meta with both": "\x01\x00\x00\x00\x00" + sizedOne + "\x01" + sizedTwo + "\x00",
		"Hold MaxHold + 1": "\x01\xa1\x8d\x06\x00\x00" + noMore, "Mark MaxTime + 1": "\x01\x00\x81\x80\x80\x80\x80\x20\x00" + noMore, "Floor MaxTime + 1": "\x02\x00\x00\x00\x81\x80\x80\x80\x80\x20\x00\x00\x00",
		"Numbers that stay": "\x01\x00\x00\x02\x05\x00\x05\x01" + noMore, "Numbers that fall": "\x01\x00\x00\x02\x05\x00\x04\x01" + noMore, "one more than the last bucket": "\x01\x00\x00\x01\xf6\xd1\xf0\xfa\x28\x00" + noMore, "Shard 2": "\x01\x00\x00\x01\x05\x02" + noMore, "just past": "\x01\x00\x64\x01\x00\x00" + noMore,
		"a T below Floor": "\x02\x00\x00\x00\x06" + sizedOne + "\x00\x00", "MaxCache + 1 points": "\x02\x00\x00\x00\x00" + slowVar(len(forty)) + forty + "\x00\x00", "one more key than MaxSeries": imageOf(shardState(impl.Engine{Cache: []impl.Series{oneSeries("a", 5, 1)}, Files: []string{keysFile(5, "b", "c", "d", "e", "f")}})).text(), "one more point than MaxPoints": imageOf(shardState(impl.Engine{Cache: []impl.Series{oneSeries("a", 99, 1)}, Files: []string{fileOf(impl.Series{Key: "a", Points: pointsEvery(0, 1, 60, 1)})}})).text(),
		"client 0": "\x02\x00\x00\x00\x00\x00\x00\x01\x00\x01\x03\x00\x00\x00", "client 5": "\x02\x00\x00\x00\x00\x00\x00\x01\x05\x01\x03\x00\x00\x00", "serial 0": "\x02\x00\x00\x00\x00\x00\x00\x01\x01\x00\x03\x00\x00\x00", "serial MaxSerial + 1": "\x02\x00\x00\x00\x00\x00\x00\x01\x01\xc1\x84\x3d\x03\x00\x00\x00",
		"clients that stay": "\x02\x00\x00\x00\x00\x00\x00\x02\x01\x01\x03\x00\x00\x00\x01\x01\x03\x00\x00\x00", "clients that fall": "\x02\x00\x00\x00\x00\x00\x00\x02\x02\x01\x03\x00\x00\x00\x01\x01\x03\x00\x00\x00",
	} {
		wantNoImage(t, name, text)
	}
	right, not := 0, 0
	for _, c := range stateCases() {
		if !canBeShown(c.s) {
			continue
		}
		if wantImageWords(t, c.name, imageOf(c.s).text()) != c.want {
			t.Errorf("%s: read where it is not right, or not where it is", c.name)
		}
		if c.want {
			right++
		} else {
			not++
		}
	}
	if right < 120 || not < 1000 {
		t.Errorf("%d right, %d not", right, not)
	}
}

func TestImagesWithAnAnswerThatIsNone(t *testing.T) {
	long := strings.Repeat("d", 901)
	head := "\x02\x00\x00\x00\x00\x00\x00"
	for _, answer := range []string{"", "\x00", "\x00\x00", "\x05\x00\x00", "\x80\x00\x00\x00", "\x00\x80\x00\x00", "\x00\x00\x80", "\x00\x00\x80\x00", "\x81\x00\x00\x00", "\x00\xa1\x8d\x06\x00", "\x00\x00" + slowVar(farTime+1), "\x00\x00\x00" + long, "\x04\xa0\x8d\x06" + farVar + long, slowVar(math.MaxInt) + "\x00\x00"} {
		if _, ok := slowReadAnswer(answer); ok {
			t.Fatalf("%q is an answer", answer)
		}
		sized := slowVar(len(answer)) + answer
		wantNoImage(t, "the answer", head+"\x01\x01\x01"+sized)
		wantNoImage(t, "the first answer", head+"\x02\x01\x01"+sized+"\x02\x01\x03\x00\x00\x00")
		wantNoImage(t, "the last answer", head+"\x02\x01\x01\x03\x00\x00\x00\x02\x01"+sized)
		wantNoImage(t, "the answer of a meta", "\x01"+head[1:]+"\x01\x01\x01"+sized)
	}
	for _, a := range wrongAnswers() {
		wantState(t, "an answer", withSessions(metaState(0, 0), impl.Session{Client: 1, Serial: 1, Answer: a}), false)
	}
	for _, c := range answerCases() {
		if within(c.a.Index, 2, 99998) || len(c.a.Data) > 5000 {
			continue
		}
		wantState(t, c.name, withSessions(shardState(impl.Engine{}), impl.Session{Client: 3, Serial: 9, Answer: c.a}), c.want)
	}
}

// All short texts over bytes that are kinds, counts, numbers and beginnings of Vars.
func TestShortImages(t *testing.T) {
	read := 0
	for _, text := range textsOf("\x00\x01\x02\x80", 8) {
		if wantImageWords(t, "short", text) {
			read++
		}
	}
	for _, head := range []string{"\x01\x00\x00", "\x01\x05\x07", "\x02\x00\x00\x00\x05\x00", "\x01\x00\x00\x00\x00\x00", "\x02\x00\x00\x00\x00\x00\x00\x01", "\x02\x00\x00\x00\x00\x00\x00\x02\x01\x01\x03\x00\x00\x00", "\x01\x00\x00\x00\x00\x00\x00\x01\x04\x01\x04"} {
		for _, text := range textsOf("\x00\x01\x02\x03\x80\xff", 6) {
			if wantImageWords(t, "short", head+text) {
				read++
			}
		}
	}
	if read < 500 {
		t.Errorf("%d were read", read)
	}
	wantNoImage(t, "the empty text", "")
}

// A state that was read serves the next call as the one that it was made of: all calls of a walk, with the state read anew ahead of each.
func TestStatesThatWereReadServeAlike(t *testing.T) {
	r := rand.New(rand.NewPCG(14, 1))
	files, done := 0, 0
	for walk := range 40 {
		s, _ := impl.NewState(1 + walk%2)
		for index := 1; index <= 50; index++ {
			o := someMetaOp(r, s)
			if s.Kind == impl.KdShard {
				o = someShardOp(r, s.Engine.Floor)
			}
			text := impl.ShowState(s)
			read, ok := impl.ReadState(text)
			if !ok || !sameState(read, s) {
				t.Fatalf("ReadState(%s) = %s, %v", brief(text), brief(read), ok)
			}
			client := 1 + r.IntN(4)
			c := served{client, slowSession(s, client).Serial + pick(r, 1, 1, 1, 1, 0, 2), o, index}
			want, wantAnswer, wantDid := c.do(s)
			got, a, did := c.do(read)
			if !sameState(got, want) || a != wantAnswer || did != wantDid {
				t.Fatalf("%s: the state that was read is %s\nby %s, %v, the other one %s\nby %s, %v", brief(c), brief(got), brief(a), did, brief(want), brief(wantAnswer), wantDid)
			}
			if did {
				done++
			}
			wantNext, _ := impl.StateDo(want, o)
			if gotNext, _ := impl.StateDo(got, o); !sameState(gotNext, wantNext) {
				t.Fatalf("%s behind %s is done in another way", brief(o), brief(c))
			}
			if impl.ShowState(got) != impl.ShowState(want) {
				t.Fatalf("%s: both are shown in another way", brief(c))
			}
			s = got
			files += len(s.Engine.Files)
		}
	}
	if files < 300 || done < 1000 {
		t.Errorf("%d files, %d done", files, done)
	}
	for _, c := range rightStates() {
		read, ok := impl.ReadState(impl.ShowState(c.s))
		for _, o := range []impl.Op{routeOp(250, 800), markOp(1130), writeOp("a", pointsAt(200, 5)), readOp("a", 0, farTime), raiseOp(110), flushOp()} {
			want, wantAnswer := impl.StateDo(c.s, o)
			if got, a := impl.StateDo(read, o); !ok || !sameState(got, want) || a != wantAnswer {
				t.Fatalf("%s: StateDo by %s of the state that was read = %s, %s, of the other one %s, %s", c.name, brief(o), brief(got), brief(a), brief(want), brief(wantAnswer))
			}
		}
	}
}

// turnImage puts something by chance in the place of one of its parts; what hangs on the part stays as it is.
func turnImage(r *rand.Rand, x image) string {
	at := r.IntN(len(x.parts))
	if r.IntN(2) == 0 {
		at = x.vars[r.IntN(len(x.vars))]
	}
	part := x.parts[at]
	if !slices.Contains(x.vars, at) {
		return x.with(at, pick(r, "", someText(r, part), someText(r, part), part+part, oneFile, "\x00\x00\x00"))
	}
	here, _ := slowVarAt(part)
	return x.with(at, pick(r, longer(part), slowVar(max(0, here+pick(r, -1, 1, 2, 100))), slowVar(r.IntN(20)), slowVar(r.IntN(impl.MaxVar)), ""))
}

// turnSized puts something by chance in the place of a text with its length, and tells the length right.
func turnSized(r *rand.Rand, x image) string {
	at := x.sizes[r.IntN(len(x.sizes))]
	part := x.parts[at+1]
	part = pick(r, someText(r, part), "", oneFile, twoFile, "\x00\x00\x00", "\x03\x05\x07told", slowFileText(someSeries(r)), slowFileText([]impl.Series{oneSeries(pick(r, rightKeys()...), 5, 1)}))
	l := slices.Clone(x.parts)
	l[at], l[at+1] = slowVar(len(part)), part
	return strings.Join(l, "")
}

func TestImagesByChance(t *testing.T) {
	r := rand.New(rand.NewPCG(14, 2))
	right, not, read, unread := 0, 0, 0, 0
	for range 2000 {
		s := someState(r)
		wantState(t, "by chance", s, slowStateOk(s))
		if slowStateOk(s) {
			right++
		} else {
			not++
		}
		if !canBeShown(s) {
			continue
		}
		x := imageOf(s)
		for _, text := range []string{someText(r, x.text()), turnImage(r, x), turnSized(r, x)} {
			if wantImageWords(t, "by chance", text) {
				read++
			} else {
				unread++
			}
		}
	}
	if min(right, not) < 500 || min(read, unread) < 500 {
		t.Errorf("%d right, %d not; %d read, %d not", right, not, read, unread)
	}
}

// Short states by chance, with texts that are turned at several places: here a text that is turned is often another state's.
func TestShortImagesByChance(t *testing.T) {
	r := rand.New(rand.NewPCG(14, 3))
	read, unread := 0, 0
	for range 40000 {
		s := pick(r, sampleStates()...)
		for range r.IntN(3) {
			turnState(r, &s)
		}
		if !canBeShown(s) {
			wantState(t, "by chance", s, slowStateOk(s))
			continue
		}
		x := imageOf(s)
		text := pick(r, x.text(), someText(r, x.text()), turnImage(r, x), turnSized(r, x))
		if wantImageWords(t, "by chance", text) {
			read++
		} else {
			unread++
		}
	}
	if min(read, unread) < 5000 {
		t.Errorf("%d read, %d not", read, unread)
	}
}

// Bytes by chance, mostly small.
func TestAnyBytesAsImages(t *testing.T) {
	r := rand.New(rand.NewPCG(14, 4))
	read := 0
	for range 200000 {
		text := make([]byte, r.IntN(16))
		for i := range text {
			text[i] = byte(pick(r, 0, 0, 0, r.IntN(4), r.IntN(128), r.IntN(256)))
		}
		if len(text) > 0 && r.IntN(2) == 0 {
			text[0] = byte(1 + r.IntN(2))
		}
		if wantImageWords(t, "any bytes", string(text)) {
			read++
		}
	}
	if read < 100 {
		t.Errorf("%d were read", read)
	}
}

// A text that is refused leaves nothing behind for the next one.
func TestImagesOneBehindTheOther(t *testing.T) {
	for _, s := range sampleStates() {
		text := impl.ShowState(s)
		for at := range len(text) {
			wantNoImage(t, "a beginning", text[:at])
			wantImage(t, "behind one that was refused", s, text)
		}
	}
}

// Lists that are empty and nil are shown alike, and what is read of them is the zero value.
func TestImagesOfEmptyLists(t *testing.T) {
	for kind := 1; kind <= 2; kind++ {
		plain, _ := impl.NewState(kind)
		empty := impl.State{Kind: kind, Buckets: []impl.Bucket{}, Sessions: []impl.Session{}, Engine: impl.Engine{Cache: []impl.Series{}, Files: []string{}}}
		text := string([]byte{byte(kind)}) + "\x00\x00\x00" + noMore
		wantImage(t, "nil", plain, text)
		wantImage(t, "empty", empty, text)
	}
}

func TestImagesAreNewMemory(t *testing.T) {
	for _, x := range append(memoryStates(), sampleStates()...) {
		s := spareState(x)
		text, again := impl.ShowState(s), impl.ShowState(s)
		wantNewTexts(t, "ShowState", []string{text}, append(textsInState(s), again))
		if !sameStateWithRoom(s, spareState(x)) {
			t.Fatalf("ShowState of %s wrote into its argument: %s", brief(x), brief(s))
		}
		first, ok := impl.ReadState(text)
		second, _ := impl.ReadState(text)
		wantNewTexts(t, "ReadState", textsInState(first), slices.Concat(textsInState(second), textsInState(s), []string{text, again}))
		for i, one := range textsInState(first) {
			wantNewTexts(t, "ReadState", []string{one}, textsInState(first)[:i])
		}
		spoilState(s)
		spoilState(second)
		if ok != slowStateOk(x) || ok && !sameState(first, x) {
			t.Fatalf("ReadState: the answer hangs on another one: %s", brief(first))
		}
		wantListsApart(t, first)
	}
}

// wantListsApart writes over each list of the state in its turn, up to the end of its room, and puts it back: all others have to be as they were.
func wantListsApart(t *testing.T, s impl.State) {
	t.Helper()
	kept := copyState(s)
	turns := map[string]func(){
		"Buckets":  func() { spoilState(impl.State{Buckets: s.Buckets}); s.Buckets = slices.Clone(kept.Buckets) },
		"Sessions": func() { spoilState(impl.State{Sessions: s.Sessions}); s.Sessions = slices.Clone(kept.Sessions) },
		"Files": func() {
			spoilEngine(impl.Engine{Files: s.Engine.Files})
			s.Engine.Files = slices.Clone(kept.Engine.Files)
		},
		"Cache": func() { spoilSeries(s.Engine.Cache); s.Engine.Cache = copySeries(kept.Engine.Cache) },
	}
	for i := range s.Engine.Cache {
		points := &s.Engine.Cache[i].Points
		turns["Points "+impl.Dec(i)] = func() { spoil(*points); *points = slices.Clone(kept.Engine.Cache[i].Points) }
	}
	// The Points come first: they are no more those that were read once the Cache is put back.
	for _, name := range slices.Backward(slices.Sorted(maps.Keys(turns))) {
		turns[name]()
		if !sameState(s, kept) {
			t.Fatalf("%s: another list hangs on them: %s", name, brief(s))
		}
	}
}

func TestImagesAnswerAtEveryArgument(t *testing.T) {
	long := strings.Repeat("a", 1000000)
	for _, s := range []impl.State{
		{Kind: math.MinInt, Hold: math.MinInt, Mark: math.MinInt}, {Kind: math.MaxInt, Hold: math.MaxInt, Mark: math.MaxInt}, {Kind: 1, Buckets: make([]impl.Bucket, 100000)}, {Kind: 1, Hold: math.MaxInt, Mark: math.MinInt, Buckets: inTurn(math.MinInt, 3)},
		shardState(impl.Engine{Floor: math.MaxInt, Files: []string{long}}), shardState(impl.Engine{Cache: make([]impl.Series, 100000)}), shardState(impl.Engine{Cache: []impl.Series{{Key: long, Points: pointsAt(1, 1)}}}), shardState(impl.Engine{Files: make([]string, 100000)}),
		withSessions(metaState(0, 0), make([]impl.Session, 100000)...), withSessions(metaState(0, 0), impl.Session{Client: 1, Serial: 1, Answer: impl.Answer{Data: long}}), withSessions(metaState(0, 0), impl.Session{Client: math.MinInt, Serial: math.MaxInt, Answer: impl.Answer{Code: math.MinInt, Index: math.MaxInt, Mark: math.MinInt}}),
	} {
		wantState(t, "far too much", s, false)
	}
	most := slowVar(impl.MaxVar)
	for _, head := range []string{"", "\x01", "\x02", "\x01\x00\x00", "\x01\x00\x00" + most, "\x02\x00\x00\x00\x00", "\x02\x00\x00\x00\x00" + most, "\x02\x00\x00\x00\x00\xc0\x84\x3d", "\x02\x00\x00\x00\x00\x00", "\x02\x00\x00\x00\x00\x00" + most, "\x02\x00\x00\x00\x00\x00\x01\xc0\x84\x3d", "\x02\x00\x00\x00\x00\x00\x00", "\x02\x00\x00\x00\x00\x00\x00" + most, "\x02\x00\x00\x00\x00\x00\x00\x01\x01\x01", "\x02\x00\x00\x00\x00\x00\x00\x01\x01\x01\xc0\x84\x3d\x00\x00\x00"} {
		for _, c := range []string{"\x00", "\x01", "\x7f", "\x80", "\xff", "a"} {
			wantNoImage(t, "far too long", head+strings.Repeat(c, 1000000))
		}
	}
}
