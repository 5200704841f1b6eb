package tests

import (
	"maps"
	"math"
	"math/rand/v2"
	"slices"
	"strings"
	"testing"

	"loop.example/g00360/impl"
)

// Promise 12: A right state stays right; a refusal changes nothing; what is written to a shard (with AnOk) is read from it. A bucket that is dealt to a shard stays there until it is past, and is not dealt again then; Mark never falls. A call that is served twice is done once and told the same; one out of its turn does nothing.

func slowOpOk(o impl.Op) bool {
	noKey, noFrom, noTo, noData := o.Key == "", o.From == 0, o.To == 0, o.Data == ""
	span := o.From >= 0 && o.From < o.To && o.To <= farTime
	switch o.Kind {
	case 1:
		return span && noKey && noData
	case 2, 6:
		return within(o.From, 0, farTime) && noKey && noTo && noData
	case 3:
		return within(o.From, 0, 100000) && noKey && noTo && noData
	case 4:
		_, ok := slowReadBlock(o.Data)
		return slowKey(o.Key) && ok && noFrom && noTo
	case 5:
		return slowKey(o.Key) && span && noData
	case 7:
		return noKey && noFrom && noTo && noData
	}
	return false
}

func slowAnswerOk(a impl.Answer) bool {
	return within(a.Code, 0, 4) && within(a.Index, 0, 100000) && within(a.Mark, 0, farTime) && len(a.Data) <= 900
}

// slowPast asks each time of the bucket.
func slowPast(number, mark int) bool {
	for n := range 100 {
		if number*100+n >= mark {
			return false
		}
	}
	return true
}

func slowSessionsOk(l []impl.Session) bool {
	for i, s := range l {
		if !within(s.Client, 1, 4) || !within(s.Serial, 1, 1000000) || !slowAnswerOk(s.Answer) || i > 0 && l[i-1].Client >= s.Client {
			return false
		}
	}
	return true
}

func slowBucketsOk(l []impl.Bucket) bool {
	for i, b := range l {
		if !within(b.Number, 0, farBucket) || !within(b.Shard, 0, 1) || i > 0 && l[i-1].Number >= b.Number {
			return false
		}
	}
	return true
}

func slowStateOk(s impl.State) bool {
	if !slowSessionsOk(s.Sessions) {
		return false
	}
	switch s.Kind {
	case 1:
		if !within(s.Hold, 0, 100000) || !within(s.Mark, 0, farTime) || len(s.Buckets) > 12 || !slowBucketsOk(s.Buckets) {
			return false
		}
		past := slices.ContainsFunc(s.Buckets, func(b impl.Bucket) bool { return slowPast(b.Number, s.Mark) })
		return !past && sameEngine(s.Engine, impl.Engine{})
	case 2:
		return s.Hold == 0 && s.Mark == 0 && len(s.Buckets) == 0 && slowEngineOk(s.Engine)
	}
	return false
}

func copyState(s impl.State) impl.State {
	s.Buckets, s.Engine, s.Sessions = slices.Clone(s.Buckets), copyEngine(s.Engine), slices.Clone(s.Sessions)
	return s
}

func sameState(a, b impl.State) bool {
	return a.Kind == b.Kind && a.Hold == b.Hold && a.Mark == b.Mark && slices.Equal(a.Buckets, b.Buckets) && sameEngine(a.Engine, b.Engine) && slices.Equal(a.Sessions, b.Sessions)
}

// slowShardOf is -1 where the bucket is not dealt.
func slowShardOf(l []impl.Bucket, number int) int {
	for _, b := range l {
		if b.Number == number {
			return b.Shard
		}
	}
	return -1
}

func slowManyAt(l []impl.Bucket, shard int) int {
	many := 0
	for _, b := range l {
		if b.Shard == shard {
			many++
		}
	}
	return many
}

func slowRoute(s impl.State, from, to int) (impl.State, impl.Answer) {
	cover := slowCover(from, to)
	if len(cover) == 0 {
		return s, impl.Answer{Code: 1}
	}
	var counting, fresh []int
	for _, n := range cover {
		if slowPast(n, s.Mark) {
			continue
		}
		counting = append(counting, n)
		if slowShardOf(s.Buckets, n) < 0 {
			fresh = append(fresh, n)
		}
	}
	if len(s.Buckets)+len(fresh) > 12 {
		return s, impl.Answer{Code: 3}
	}
	for _, n := range fresh {
		shard := 0
		if slowManyAt(s.Buckets, 1) < slowManyAt(s.Buckets, 0) {
			shard = 1
		}
		s.Buckets = append(s.Buckets, impl.Bucket{Number: n, Shard: shard})
	}
	slices.SortFunc(s.Buckets, func(a, b impl.Bucket) int { return a.Number - b.Number })
	data := ""
	for _, n := range counting {
		data += slowVar(n) + slowVar(slowShardOf(s.Buckets, n))
	}
	return s, impl.Answer{Mark: s.Mark, Data: data}
}

func slowMark(s impl.State, from int) (impl.State, impl.Answer) {
	if from-s.Hold > s.Mark {
		s.Mark = from - s.Hold
		s.Buckets = slices.DeleteFunc(s.Buckets, func(b impl.Bucket) bool { return slowPast(b.Number, s.Mark) })
	}
	return s, impl.Answer{Mark: s.Mark}
}

// slowShardDo is of an op that is OpOk at a shard.
func slowShardDo(s impl.State, o impl.Op) (impl.State, impl.Answer) {
	var a impl.Answer
	switch o.Kind {
	case 4:
		points, _ := slowReadBlock(o.Data)
		s.Engine, a.Code = slowPut(s.Engine, o.Key, points)
	case 5:
		a.Data = slowShowBlock(slowQuery(s.Engine, o.Key, o.From, o.To))
	case 6:
		s.Engine = slowRaise(s.Engine, o.From)
	case 7:
		s.Engine = slowFlush(s.Engine)
	}
	a.Mark = s.Engine.Floor
	return s, a
}

func slowStateDo(s impl.State, o impl.Op) (impl.State, impl.Answer) {
	s = copyState(s)
	switch {
	case !slowStateOk(s):
		return impl.State{}, impl.Answer{Code: 1}
	case !slowOpOk(o):
		return s, impl.Answer{Code: 1}
	case (o.Kind <= 3) != (s.Kind == 1):
		return s, impl.Answer{Code: 4}
	case o.Kind == 1:
		return slowRoute(s, o.From, o.To)
	case o.Kind == 2:
		return slowMark(s, o.From)
	case o.Kind == 3:
		s.Hold = o.From
		return s, impl.Answer{Mark: s.Mark}
	}
	return slowShardDo(s, o)
}

func slowSession(s impl.State, client int) impl.Session {
	for _, last := range s.Sessions {
		if last.Client == client {
			return last
		}
	}
	return impl.Session{}
}

// A served is what Serve is asked for.
type served struct {
	client, serial int
	o              impl.Op
	index          int
}

func (c served) do(s impl.State) (impl.State, impl.Answer, bool) {
	return impl.Serve(s, c.client, c.serial, c.o, c.index)
}

func slowServe(s impl.State, c served) (impl.State, impl.Answer, bool) {
	if !slowStateOk(s) {
		return impl.State{}, impl.Answer{}, false
	}
	last := slowSession(s, c.client)
	if !within(c.client, 1, 4) || !within(c.serial, 1, 1000000) || !within(c.index, 1, 100000) {
		return copyState(s), impl.Answer{}, false
	}
	if c.serial == last.Serial {
		return copyState(s), last.Answer, false
	}
	if c.serial != last.Serial+1 {
		return copyState(s), impl.Answer{}, false
	}
	next, a := slowStateDo(s, c.o)
	a.Index = c.index
	next.Sessions = slices.DeleteFunc(next.Sessions, func(s impl.Session) bool { return s.Client == c.client })
	next.Sessions = append(next.Sessions, impl.Session{Client: c.client, Serial: c.serial, Answer: a})
	slices.SortFunc(next.Sessions, func(a, b impl.Session) int { return a.Client - b.Client })
	return next, a, true
}

func slowRoutes(data string) ([]impl.Bucket, bool) {
	var numbers []int
	for data != "" {
		n, used := slowVarAt(data)
		if used == 0 {
			return nil, false
		}
		numbers, data = append(numbers, n), data[used:]
	}
	if len(numbers)%2 != 0 || len(numbers) > 16 || !slowBucketsOk(dealt(numbers...)) {
		return nil, false
	}
	return dealt(numbers...), true
}

// dealt are buckets of numbers and shards in turn.
func dealt(numbers ...int) []impl.Bucket {
	var l []impl.Bucket
	for i := 0; i+1 < len(numbers); i += 2 {
		l = append(l, impl.Bucket{Number: numbers[i], Shard: numbers[i+1]})
	}
	return l
}

// inTurn are many buckets from the first one on, at both shards in turn.
func inTurn(first, many int) []impl.Bucket {
	var l []impl.Bucket
	for i := range many {
		l = append(l, impl.Bucket{Number: first + i, Shard: i % 2})
	}
	return l
}

// toldRoute is Data of a route to these buckets.
func toldRoute(l []impl.Bucket) string {
	data := ""
	for _, b := range l {
		data += slowVar(b.Number) + slowVar(b.Shard)
	}
	return data
}

func metaState(hold, mark int, l ...impl.Bucket) impl.State {
	return impl.State{Kind: impl.KdMeta, Hold: hold, Mark: mark, Buckets: l}
}

func shardState(e impl.Engine) impl.State {
	return impl.State{Kind: impl.KdShard, Engine: e}
}

func withSessions(s impl.State, l ...impl.Session) impl.State {
	s.Sessions = l
	return s
}

func sessionAt(client, serial int) impl.Session {
	return impl.Session{Client: client, Serial: serial, Answer: impl.Answer{Index: 10 * client, Mark: 7, Data: "told " + impl.Dec(client)}}
}

func allSessions() []impl.Session {
	return []impl.Session{sessionAt(1, 5), sessionAt(2, 1), sessionAt(3, 999999), sessionAt(4, 1000000)}
}

// richMeta has buckets of both shards, the first one half past, and room for five more.
func richMeta() impl.State {
	return withSessions(metaState(30, 250, dealt(2, 0, 3, 1, 4, 1, 7, 0, 128, 1, farBucket-1, 0, farBucket, 1)...), sessionAt(1, 5), sessionAt(3, 2))
}

func fullMeta() impl.State {
	return withSessions(metaState(0, 0, inTurn(10, 12)...), allSessions()...)
}

func richShard() impl.State {
	return withSessions(shardState(richEngine()), sessionAt(2, 7), sessionAt(4, 1))
}

func fullShard() impl.State {
	return withSessions(shardState(fullEngine()), allSessions()...)
}

func routeOp(from, to int) impl.Op {
	return impl.Op{Kind: impl.OmRoute, From: from, To: to}
}

func markOp(n int) impl.Op {
	return impl.Op{Kind: impl.OmMark, From: n}
}

func holdOp(n int) impl.Op {
	return impl.Op{Kind: impl.OmHold, From: n}
}

func writeOp(key string, l []impl.Point) impl.Op {
	return impl.Op{Kind: impl.OsWrite, Key: key, Data: slowShowBlock(l)}
}

func readOp(key string, from, to int) impl.Op {
	return impl.Op{Kind: impl.OsRead, Key: key, From: from, To: to}
}

func raiseOp(n int) impl.Op {
	return impl.Op{Kind: impl.OsRaise, From: n}
}

func flushOp() impl.Op {
	return impl.Op{Kind: impl.OsFlush}
}

func metaOps() []impl.Op {
	return []impl.Op{routeOp(0, 1), routeOp(250, 800), routeOp(0, 801), routeOp(1000, 1800), routeOp(farTime-1, farTime), markOp(0), markOp(300), markOp(1130), markOp(farTime), holdOp(0), holdOp(100000)}
}

func shardOps() []impl.Op {
	return []impl.Op{writeOp("a", pointsAt(200, 5)), writeOp("a", pointsAt(0, 5)), writeOp("new", pointsEvery(200, 1, 60, 5)), readOp("a", 0, 1), readOp("a", 0, farTime), readOp("none", 5, 500), raiseOp(0), raiseOp(110), raiseOp(farTime), flushOp()}
}

// wrongOps are not OpOk.
func wrongOps() []impl.Op {
	l := []impl.Op{{}, {Kind: 8}, {Kind: -1}, {Kind: math.MinInt}, {Kind: math.MaxInt}, routeOp(-1, 5), routeOp(5, 5), routeOp(5, farTime+1), markOp(-1), markOp(farTime + 1), holdOp(-1), holdOp(100001),
		writeOp("", pointsAt(5, 1)), writeOp("A", pointsAt(5, 1)), writeOp("a", nil), {Kind: impl.OsWrite, Key: "a", Data: "data"}, {Kind: impl.OsWrite, Key: "a", Data: rawBlock(61, pointsEvery(0, 1, 61, 1))},
		readOp("", 0, 5), readOp("Aa", 0, 5), readOp("a", 5, 5), readOp("a", -1, 5), readOp("a", 0, farTime+1), raiseOp(-1), raiseOp(farTime + 1)}
	for _, o := range []impl.Op{routeOp(0, 5), markOp(5), holdOp(5), writeOp("a", pointsAt(5, 1)), readOp("a", 0, 5), raiseOp(5), flushOp()} {
		for _, x := range []impl.Op{{Key: "a"}, {From: 3}, {To: 500}, {Data: "d"}} {
			if turned := withFields(o, x); !slowOpOk(turned) {
				l = append(l, turned)
			}
		}
	}
	return l
}

// withFields is the op with each field of the other one that is not zero.
func withFields(o, x impl.Op) impl.Op {
	if x.Key != "" {
		o.Key = x.Key
	}
	if x.From != 0 {
		o.From = x.From
	}
	if x.To != 0 {
		o.To = x.To
	}
	if x.Data != "" {
		o.Data = x.Data
	}
	return o
}

// wantDo tells where StateDo answers otherwise than wanted, where the words say something else, or where it writes into the state that it is handed; a right state must stay right, and a refusal change nothing.
func wantDo(t *testing.T, name string, s impl.State, o impl.Op, want impl.State, wantAnswer impl.Answer) impl.State {
	t.Helper()
	ahead := copyState(s)
	got, a := impl.StateDo(s, o)
	if !sameState(got, want) || a != wantAnswer {
		t.Fatalf("%s: StateDo of %s\nby %s\n= %s, %s\nwant %s, %s", name, brief(ahead), brief(o), brief(got), brief(a), brief(want), brief(wantAnswer))
	}
	if said, saidAnswer := slowStateDo(s, o); !sameState(said, want) || saidAnswer != wantAnswer {
		t.Fatalf("%s: StateDo of %s\nby %s\nby the words = %s, %s\nwant %s, %s", name, brief(ahead), brief(o), brief(said), brief(saidAnswer), brief(want), brief(wantAnswer))
	}
	if !sameState(s, ahead) {
		t.Fatalf("%s: StateDo of %s\nby %s\nmade it %s", name, brief(ahead), brief(o), brief(s))
	}
	if slowStateOk(s) && (!impl.StateOk(got) || !impl.AnswerOk(a) || a.Code != impl.AnOk && !sameState(got, s)) {
		t.Fatalf("%s: StateDo of %s\nby %s\n= %s, %s: not right, or changed by a refusal", name, brief(ahead), brief(o), brief(got), brief(a))
	}
	return got
}

// wantSame wants the state as it is.
func wantSame(t *testing.T, name string, s impl.State, o impl.Op, wantAnswer impl.Answer) {
	t.Helper()
	wantDo(t, name, s, o, s, wantAnswer)
}

// wantDoWords wants what the words say.
func wantDoWords(t *testing.T, name string, s impl.State, o impl.Op) (impl.State, impl.Answer) {
	t.Helper()
	want, a := slowStateDo(s, o)
	return wantDo(t, name, s, o, want, a), a
}

func TestStateConstants(t *testing.T) {
	got := []int{impl.MaxShards, impl.MaxBuckets, impl.MaxHold, impl.MaxSessions, impl.MaxSerial, impl.KdMeta, impl.KdShard,
		impl.OmRoute, impl.OmMark, impl.OmHold, impl.OsWrite, impl.OsRead, impl.OsRaise, impl.OsFlush,
		impl.AnOk, impl.AnBad, impl.AnLate, impl.AnFull, impl.AnNone}
	if want := []int{2, 12, 100000, 4, 1000000, 1, 2, 1, 2, 3, 4, 5, 6, 7, 0, 1, 2, 3, 4}; !slices.Equal(got, want) {
		t.Errorf("%v, want %v", got, want)
	}
}

// An opCase is an op and whether it is OpOk.
type opCase struct {
	name string
	o    impl.Op
	want bool
}

func spanCases(kind int, key string) []opCase {
	op := func(from, to int) impl.Op { return impl.Op{Kind: kind, Key: key, From: from, To: to} }
	return []opCase{
		{"From -1", op(-1, 5), false}, {"From 0", op(0, 5), true}, {"From 1", op(1, 5), true}, {"the least From", op(math.MinInt, 5), false},
		{"To one above From", op(5, 6), true}, {"To at From", op(5, 5), false}, {"To one below From", op(5, 4), false}, {"both 0", op(0, 0), false}, {"0 and 1", op(0, 1), true}, {"-1 and 0", op(-1, 0), false},
		{"To MaxTime - 1", op(5, farTime-1), true}, {"To MaxTime", op(5, farTime), true}, {"To MaxTime + 1", op(5, farTime+1), false}, {"the greatest To", op(5, math.MaxInt), false},
		{"all times", op(0, farTime), true}, {"the last time", op(farTime-1, farTime), true}, {"MaxTime twice", op(farTime, farTime), false}, {"beyond MaxTime", op(farTime, farTime+1), false},
		{"the least To", op(5, math.MinInt), false}, {"the greatest From", op(math.MaxInt, 5), false}, {"From without To", op(5, 0), false},
		{"wider than MaxCover", op(0, 100000), true},
	}
}

func fromCases(kind, most int) []opCase {
	op := func(from int) impl.Op { return impl.Op{Kind: kind, From: from} }
	return []opCase{
		{"From -1", op(-1), false}, {"From 0", op(0), true}, {"From 1", op(1), true}, {"the least From", op(math.MinInt), false},
		{"one below the most", op(most - 1), true}, {"the most", op(most), true}, {"one more", op(most + 1), false}, {"the greatest From", op(math.MaxInt), false},
		{"To 1", impl.Op{Kind: kind, From: 5, To: 1}, false}, {"To -1", impl.Op{Kind: kind, From: 5, To: -1}, false}, {"To above From", impl.Op{Kind: kind, From: 5, To: 6}, false},
	}
}

func keyCases(o impl.Op) []opCase {
	var l []opCase
	for _, key := range rightKeys() {
		l = append(l, opCase{"key " + key, withFields(o, impl.Op{Key: key}), true})
	}
	for _, key := range wrongKeys() {
		turned := o
		turned.Key = key
		l = append(l, opCase{"key " + impl.Hex(key), turned, false})
	}
	return l
}

func writeCases() []opCase {
	one := slowShowBlock(pointsAt(5, 1))
	op := func(data string) impl.Op { return impl.Op{Kind: impl.OsWrite, Key: "cpu", Data: data} }
	l := []opCase{
		{"no Data", op(""), false}, {"a word", op("data"), false}, {"a block", op(one), true}, {"a block cut off", op(one[:len(one)-1]), false}, {"a byte more", op(one + "\x00"), false}, {"a block twice", op(one + one), false},
		{"a byte turned", op(withByte(one, len(one)-1, one[len(one)-1]^1)), false}, {"a frame of another body", op(slowFrame("body")), false}, {"a file", op(keysFile(5, "cpu")), false},
		{"MaxPoints", op(slowShowBlock(pointsEvery(0, 1, 60, 1))), true}, {"one more", op(rawBlock(61, pointsEvery(0, 1, 61, 1))), false}, {"no points", op(rawBlock(0, nil)), false},
		{"a point at MaxTime", op(slowShowBlock(pointsAt(farTime, farTime))), true}, {"a point beyond MaxTime", op(rawBlock(1, pointsAt(farTime+1, 1))), false}, {"times that stay", op(rawBlock(2, pointsAt(5, 1, 5, 1))), false},
		{"more Data than MaxData", op(strings.Repeat("d", 901)), false}, {"far more Data", op(strings.Repeat("d", 1000000)), false},
	}
	for _, points := range rightPoints() {
		l = append(l, opCase{"right points", op(slowShowBlock(points)), len(points) > 0})
	}
	return l
}

// unnamedCases are ops of each kind with a field set that the kind does not name.
func unnamedCases() []opCase {
	var l []opCase
	block := slowShowBlock(pointsAt(5, 1))
	for _, c := range []struct {
		o      impl.Op
		fields []impl.Op
	}{
		{routeOp(5, 500), []impl.Op{{Key: "a"}, {Data: "d"}, {Data: block}, {Key: "a", Data: block}, {Key: "\x00"}, {Data: "\x00"}}},
		{markOp(5), []impl.Op{{Key: "a"}, {To: 1}, {To: 6}, {To: -1}, {Data: "d"}, {Data: block}}},
		{holdOp(5), []impl.Op{{Key: "a"}, {To: 1}, {To: 6}, {To: -1}, {Data: "d"}, {Data: block}}},
		{writeOp("a", pointsAt(5, 1)), []impl.Op{{From: 1}, {From: -1}, {To: 1}, {To: -1}, {From: 5, To: 6}}},
		{readOp("a", 5, 500), []impl.Op{{Data: "d"}, {Data: block}, {Data: "\x00"}}},
		{raiseOp(5), []impl.Op{{Key: "a"}, {To: 1}, {To: 6}, {To: -1}, {Data: "d"}, {Data: block}}},
		{flushOp(), []impl.Op{{Key: "a"}, {From: 1}, {From: -1}, {To: 1}, {To: -1}, {Data: "d"}, {Data: block}}},
	} {
		l = append(l, opCase{"as named", c.o, true})
		for _, x := range c.fields {
			l = append(l, opCase{"a field that is not named", withFields(c.o, x), false})
		}
		for _, kind := range []int{0, 8, -1, 9, 256 + c.o.Kind, -c.o.Kind, math.MinInt, math.MaxInt} {
			turned := c.o
			turned.Kind = kind
			l = append(l, opCase{"a kind that is none", turned, false})
		}
	}
	return l
}

func TestOpOkEdges(t *testing.T) {
	cases := slices.Concat(spanCases(impl.OmRoute, ""), spanCases(impl.OsRead, "cpu"), fromCases(impl.OmMark, farTime), fromCases(impl.OmHold, 100000), fromCases(impl.OsRaise, farTime),
		keyCases(writeOp("", pointsAt(5, 1))), keyCases(readOp("", 5, 500)), writeCases(), unnamedCases())
	for kind := range 10 {
		cases = append(cases, opCase{"a kind alone", impl.Op{Kind: kind}, slices.Contains([]int{2, 3, 6, 7}, kind)})
	}
	for _, c := range cases {
		if ok := impl.OpOk(c.o); ok != c.want || slowOpOk(c.o) != c.want {
			t.Errorf("%s: OpOk(%s) = %v, the words say %v, want %v", c.name, brief(c.o), ok, slowOpOk(c.o), c.want)
		}
	}
	for _, o := range wrongOps() {
		if impl.OpOk(o) || slowOpOk(o) {
			t.Errorf("OpOk(%s) = %v, the words say %v", brief(o), impl.OpOk(o), slowOpOk(o))
		}
	}
	for _, o := range append(metaOps(), shardOps()...) {
		if !impl.OpOk(o) || !slowOpOk(o) {
			t.Errorf("OpOk(%s) = %v, the words say %v", brief(o), impl.OpOk(o), slowOpOk(o))
		}
	}
}

// All kinds, with all fields at their edges held against each other.
func TestOpOkOfAllFields(t *testing.T) {
	block := slowShowBlock(pointsAt(5, 1, 80, 2))
	numbers := []int{math.MinInt, -1, 0, 1, 2, 100000, 100001, farTime - 1, farTime, farTime + 1, math.MaxInt}
	right := map[int]int{}
	for kind := -1; kind <= 9; kind++ {
		for _, key := range []string{"", "a", "zzzzzzzz", "zzzzzzzzz", "A"} {
			for _, data := range []string{"", "d", block, block + "d"} {
				for _, from := range numbers {
					for _, to := range numbers {
						o := impl.Op{Kind: kind, Key: key, From: from, To: to, Data: data}
						if ok := impl.OpOk(o); ok != slowOpOk(o) {
							t.Fatalf("OpOk(%s) = %v", brief(o), ok)
						} else if ok {
							right[kind]++
						}
					}
				}
			}
		}
	}
	// Of the seven numbers from 0 to MaxTime each two are a span.
	if want := map[int]int{1: 21, 2: 7, 3: 4, 4: 2, 5: 42, 6: 7, 7: 1}; !maps.Equal(right, want) {
		t.Errorf("OpOk of each kind: %v, want %v", right, want)
	}
}

func TestAnswerOkEdges(t *testing.T) {
	long := strings.Repeat("d", 900)
	for _, c := range []struct {
		name string
		a    impl.Answer
		want bool
	}{
		{"the zero Answer", impl.Answer{}, true},
		{"Code -1", impl.Answer{Code: -1}, false}, {"Code 1", impl.Answer{Code: 1}, true}, {"Code 2", impl.Answer{Code: 2}, true}, {"Code 3", impl.Answer{Code: 3}, true}, {"Code 4", impl.Answer{Code: 4}, true}, {"Code 5", impl.Answer{Code: 5}, false},
		{"the least Code", impl.Answer{Code: math.MinInt}, false}, {"the greatest Code", impl.Answer{Code: math.MaxInt}, false},
		{"Index -1", impl.Answer{Index: -1}, false}, {"Index 1", impl.Answer{Index: 1}, true}, {"Index MaxIndex - 1", impl.Answer{Index: 99999}, true}, {"Index MaxIndex", impl.Answer{Index: 100000}, true}, {"Index MaxIndex + 1", impl.Answer{Index: 100001}, false},
		{"the least Index", impl.Answer{Index: math.MinInt}, false}, {"the greatest Index", impl.Answer{Index: math.MaxInt}, false},
		{"Mark -1", impl.Answer{Mark: -1}, false}, {"Mark 1", impl.Answer{Mark: 1}, true}, {"Mark MaxTime - 1", impl.Answer{Mark: farTime - 1}, true}, {"Mark MaxTime", impl.Answer{Mark: farTime}, true}, {"Mark MaxTime + 1", impl.Answer{Mark: farTime + 1}, false},
		{"the least Mark", impl.Answer{Mark: math.MinInt}, false}, {"the greatest Mark", impl.Answer{Mark: math.MaxInt}, false},
		{"a byte", impl.Answer{Data: "\x00"}, true}, {"MaxData - 1 bytes", impl.Answer{Data: long[1:]}, true}, {"MaxData bytes", impl.Answer{Data: long}, true}, {"one more", impl.Answer{Data: long + "d"}, false}, {"far more", impl.Answer{Data: strings.Repeat(long, 1000)}, false},
		{"all at their most", impl.Answer{Code: 4, Index: 100000, Mark: farTime, Data: long}, true},
	} {
		if ok := impl.AnswerOk(c.a); ok != c.want || slowAnswerOk(c.a) != c.want {
			t.Errorf("%s: AnswerOk = %v, the words say %v, want %v", c.name, ok, slowAnswerOk(c.a), c.want)
		}
	}
	right := 0
	for _, code := range []int{-1, 0, 1, 2, 3, 4, 5} {
		for _, index := range []int{-1, 0, 100000, 100001} {
			for _, mark := range []int{-1, 0, farTime, farTime + 1} {
				for _, data := range []string{"", long, long + "d"} {
					if impl.AnswerOk(impl.Answer{Code: code, Index: index, Mark: mark, Data: data}) {
						right++
					}
				}
			}
		}
	}
	if right != 5*2*2*2 {
		t.Errorf("%d are right", right)
	}
}

// A stateCase is a state and whether it is right.
type stateCase struct {
	name string
	s    impl.State
	want bool
}

// wrongAnswers are not AnswerOk.
func wrongAnswers() []impl.Answer {
	return []impl.Answer{{Code: -1}, {Code: 5}, {Index: -1}, {Index: 100001}, {Mark: -1}, {Mark: farTime + 1}, {Data: strings.Repeat("d", 901)}}
}

// sessionCases are of a right state without Sessions.
func sessionCases(s impl.State) []stateCase {
	with := func(name string, want bool, l ...impl.Session) stateCase {
		return stateCase{name, withSessions(s, l...), want}
	}
	at := func(clients ...int) []impl.Session {
		var l []impl.Session
		for _, client := range clients {
			l = append(l, sessionAt(client, 3))
		}
		return l
	}
	most := impl.Answer{Code: 4, Index: 100000, Mark: farTime, Data: strings.Repeat("d", 900)}
	l := []stateCase{
		with("no Session", true), with("an empty list", true, []impl.Session{}...), with("the zero Session", false, impl.Session{}),
		with("client 1", true, at(1)...), with("client MaxSessions", true, at(4)...), with("client 0", false, at(0)...), with("client MaxSessions + 1", false, at(5)...), with("client -1", false, at(-1)...),
		with("the least client", false, at(math.MinInt)...), with("the greatest client", false, at(math.MaxInt)...),
		with("all clients", true, at(1, 2, 3, 4)...), with("0 ahead of all", false, at(0, 1, 2, 3, 4)...), with("one more behind all", false, at(1, 2, 3, 4, 5)...),
		with("two of four", true, at(2, 4)...), with("clients that fall", false, at(2, 1)...), with("a client twice", false, at(2, 2)...), with("the last client twice", false, at(1, 2, 3, 3)...), with("the last client falls", false, at(1, 2, 4, 3)...), with("MaxSessions twice", false, at(1, 2, 3, 4, 4)...),
		with("serial 0", false, sessionAt(1, 0)), with("serial 1", true, sessionAt(1, 1)), with("serial -1", false, sessionAt(1, -1)), with("serial MaxSerial - 1", true, sessionAt(1, 999999)), with("serial MaxSerial", true, sessionAt(1, 1000000)), with("serial MaxSerial + 1", false, sessionAt(1, 1000001)),
		with("the least serial", false, sessionAt(1, math.MinInt)), with("the greatest serial", false, sessionAt(1, math.MaxInt)), with("serial 0 at the last one", false, sessionAt(1, 1), sessionAt(4, 0)), with("serials that fall", true, sessionAt(1, 900), sessionAt(2, 5)),
		with("the zero Answer", true, impl.Session{Client: 2, Serial: 3}), with("an Answer at its edges", true, impl.Session{Client: 2, Serial: 3, Answer: most}), with("far too many", false, at(slices.Repeat([]int{1, 2, 3, 4}, 1000)...)...),
	}
	for _, a := range wrongAnswers() {
		wrong := impl.Session{Client: 2, Serial: 3, Answer: a}
		l = append(l, with("an Answer that is not right", false, wrong), with("the last Answer is not right", false, sessionAt(1, 1), wrong), with("the first Answer is not right", false, wrong, sessionAt(3, 1)))
	}
	return l
}

func metaCases() []stateCase {
	meta := func(hold, mark int, numbers ...int) impl.State { return metaState(hold, mark, dealt(numbers...)...) }
	return []stateCase{
		{"new", meta(0, 0), true}, {"empty lists", impl.State{Kind: 1, Buckets: []impl.Bucket{}, Sessions: []impl.Session{}, Engine: impl.Engine{Cache: []impl.Series{}, Files: []string{}}}, true},
		{"rich", richMeta(), true}, {"full", fullMeta(), true},
		{"Hold -1", meta(-1, 0), false}, {"Hold 1", meta(1, 0), true}, {"Hold MaxHold - 1", meta(99999, 0), true}, {"Hold MaxHold", meta(100000, 0), true}, {"Hold MaxHold + 1", meta(100001, 0), false}, {"the least Hold", meta(math.MinInt, 0), false}, {"the greatest Hold", meta(math.MaxInt, 0), false},
		{"Mark -1", meta(0, -1), false}, {"Mark 1", meta(0, 1), true}, {"Mark MaxTime - 1", meta(0, farTime-1), true}, {"Mark MaxTime", meta(0, farTime), true}, {"Mark MaxTime + 1", meta(0, farTime+1), false}, {"the least Mark", meta(0, math.MinInt), false}, {"the greatest Mark", meta(0, math.MaxInt), false},
		{"Hold above Mark", meta(500, 3), true},
		{"a bucket", meta(0, 0, 5, 1), true}, {"11 buckets", metaState(0, 0, inTurn(3, 11)...), true}, {"MaxBuckets buckets", metaState(0, 0, inTurn(3, 12)...), true}, {"one more", metaState(0, 0, inTurn(3, 13)...), false}, {"far more", metaState(0, 0, inTurn(3, 100000)...), false},
		{"MaxBuckets at one shard", metaState(0, 0, everyBucket(3, 12, 1)...), true}, {"one more at one shard", metaState(0, 0, everyBucket(3, 13, 1)...), false},
		{"Numbers that stay", meta(0, 0, 5, 0, 5, 1), false}, {"a bucket twice", meta(0, 0, 5, 1, 5, 1), false}, {"Numbers that fall", meta(0, 0, 5, 0, 4, 1), false}, {"the last Number stays", meta(0, 0, 1, 0, 5, 0, 5, 1), false}, {"the last Number falls", meta(0, 0, 1, 0, 5, 0, 4, 1), false}, {"the last Number as the first", meta(0, 0, 1, 0, 5, 0, 1, 1), false}, {"Numbers apart", meta(0, 0, 0, 0, 77, 0, 5000000, 1), true},
		{"Number 0", meta(0, 0, 0, 0), true}, {"Number -1", meta(0, 0, -1, 0), false}, {"Number -1 ahead of others", meta(0, 0, -1, 0, 0, 1, 1, 0), false}, {"the least Number", meta(0, 0, math.MinInt, 0), false}, {"the greatest Number", meta(0, 0, math.MaxInt, 0), false},
		{"the bucket ahead of the last", meta(0, 0, farBucket-1, 0), true}, {"the bucket of MaxTime", meta(0, 0, farBucket, 0), true}, {"one more", meta(0, 0, farBucket+1, 0), false}, {"one more behind others", meta(0, 0, 1, 0, farBucket, 1, farBucket+1, 0), false}, {"a Number that times Width is no int", meta(0, 0, 1<<60, 0), false}, {"such a one with a Mark", meta(0, farTime, 1<<60, 0), false},
		{"Shard -1", meta(0, 0, 5, -1), false}, {"Shard 1", meta(0, 0, 5, 1), true}, {"Shard MaxShards", meta(0, 0, 5, 2), false}, {"Shard MaxShards at the last one", meta(0, 0, 5, 1, 6, 2), false}, {"Shard -1 at the first one", meta(0, 0, 5, -1, 6, 1), false}, {"the least Shard", meta(0, 0, 5, math.MinInt), false}, {"the greatest Shard", meta(0, 0, 5, math.MaxInt), false},
		{"bucket 0, Mark at its first time", meta(0, 0, 0, 0), true}, {"bucket 0, Mark at its last time", meta(0, 99, 0, 0), true}, {"bucket 0 is just past", meta(0, 100, 0, 0), false}, {"bucket 0 is long past", meta(0, 5000, 0, 0), false},
		{"bucket 5, Mark ahead of it", meta(0, 499, 5, 0), true}, {"bucket 5, Mark at its first time", meta(0, 500, 5, 0), true}, {"bucket 5, half past", meta(0, 550, 5, 0), true}, {"bucket 5, Mark at its last time", meta(0, 599, 5, 0), true}, {"bucket 5 is just past", meta(0, 600, 5, 0), false}, {"bucket 5 is past", meta(0, 601, 5, 0), false},
		{"the first of two is past", meta(0, 600, 5, 0, 6, 1), false}, {"both are past", meta(0, 700, 5, 0, 6, 1), false}, {"the first of two is half past", meta(0, 599, 5, 0, 6, 1), true}, {"a Hold changes nothing there", meta(100, 600, 5, 0), false}, {"Hold of as much", meta(1, 599, 5, 0), true},
		{"the last bucket at Mark MaxTime", meta(0, farTime, farBucket, 1), true}, {"the one ahead of it at Mark MaxTime", meta(0, farTime, farBucket-1, 1), false}, {"the one ahead of it, just past", meta(0, farTime-76, farBucket-1, 1), false}, {"the one ahead of it, Mark at its last time", meta(0, farTime-77, farBucket-1, 1), true},
		{"a Floor", impl.State{Kind: 1, Engine: impl.Engine{Floor: 1}}, false}, {"a Floor below 0", impl.State{Kind: 1, Engine: impl.Engine{Floor: -1}}, false}, {"a Cache", impl.State{Kind: 1, Engine: impl.Engine{Cache: cacheOf(1)}}, false}, {"a Cache of the zero Series", impl.State{Kind: 1, Engine: impl.Engine{Cache: make([]impl.Series, 1)}}, false},
		{"a file", impl.State{Kind: 1, Engine: impl.Engine{Files: []string{keysFile(5, "a")}}}, false}, {"a file without bytes", impl.State{Kind: 1, Engine: impl.Engine{Files: []string{""}}}, false}, {"an Engine", impl.State{Kind: 1, Engine: richEngine()}, false}, {"an Engine and buckets", impl.State{Kind: 1, Buckets: inTurn(3, 3), Engine: richEngine()}, false},
	}
}

// everyBucket are many buckets from the first one on, at one shard.
func everyBucket(first, many, shard int) []impl.Bucket {
	l := inTurn(first, many)
	for i := range l {
		l[i].Shard = shard
	}
	return l
}

func shardCases() []stateCase {
	with := func(change func(s *impl.State)) impl.State {
		s := richShard()
		change(&s)
		return s
	}
	l := []stateCase{
		{"new", shardState(impl.Engine{}), true}, {"rich", richShard(), true}, {"full", fullShard(), true}, {"empty lists", impl.State{Kind: 2, Buckets: []impl.Bucket{}, Sessions: []impl.Session{}}, true},
		{"Hold 1", with(func(s *impl.State) { s.Hold = 1 }), false}, {"Hold -1", with(func(s *impl.State) { s.Hold = -1 }), false}, {"Mark 1", with(func(s *impl.State) { s.Mark = 1 }), false}, {"Mark -1", with(func(s *impl.State) { s.Mark = -1 }), false}, {"Mark at Floor", with(func(s *impl.State) { s.Mark = s.Engine.Floor }), false},
		{"a bucket", with(func(s *impl.State) { s.Buckets = dealt(5, 0) }), false}, {"the zero Bucket", with(func(s *impl.State) { s.Buckets = dealt(0, 0) }), false}, {"Hold 1, no points", impl.State{Kind: 2, Hold: 1}, false}, {"Mark 1, no points", impl.State{Kind: 2, Mark: 1}, false}, {"a bucket, no points", impl.State{Kind: 2, Buckets: dealt(0, 0)}, false},
	}
	for _, c := range engineCases() {
		l = append(l, stateCase{"an engine: " + c.name, shardState(c.e), c.want})
	}
	return l
}

func kindCases() []stateCase {
	var l []stateCase
	for _, kind := range []int{0, 3, -1, 4, 256 + 1, 256 + 2, math.MinInt, math.MaxInt} {
		for _, s := range []impl.State{{}, richMeta(), richShard(), withSessions(impl.State{}, sessionAt(1, 1))} {
			s.Kind = kind
			l = append(l, stateCase{"kind " + impl.Dec(kind), s, false})
		}
	}
	meta, shard := richMeta(), richShard()
	meta.Kind, shard.Kind = impl.KdShard, impl.KdMeta
	return append(l, stateCase{"what a KdMeta has at a KdShard", meta, false}, stateCase{"what a KdShard has at a KdMeta", shard, false})
}

func stateCases() []stateCase {
	return slices.Concat(kindCases(), metaCases(), shardCases(), sessionCases(metaState(0, 0)), sessionCases(metaState(5, 250, inTurn(3, 12)...)), sessionCases(shardState(impl.Engine{})), sessionCases(shardState(richEngine())))
}

func badStates() []stateCase {
	return slices.DeleteFunc(stateCases(), func(c stateCase) bool { return c.want })
}

func rightStates() []stateCase {
	return slices.DeleteFunc(stateCases(), func(c stateCase) bool { return !c.want })
}

func TestStateOkEdges(t *testing.T) {
	for _, c := range stateCases() {
		if ok := impl.StateOk(c.s); ok != c.want || slowStateOk(c.s) != c.want {
			t.Errorf("%s: StateOk(%s) = %v, the words say %v, want %v", c.name, brief(c.s), ok, slowStateOk(c.s), c.want)
		}
	}
}

func TestNewState(t *testing.T) {
	for _, kind := range []int{math.MinInt, -2, -1, 0, 1, 2, 3, 4, 257, 258, math.MaxInt} {
		s, ok := impl.NewState(kind)
		want, right := impl.State{Kind: kind}, kind == 1 || kind == 2
		if !right {
			want = impl.State{}
		}
		if ok != right || !sameState(s, want) || impl.StateOk(s) != right {
			t.Errorf("NewState(%d) = %s, %v, StateOk %v", kind, brief(s), ok, impl.StateOk(s))
		}
	}
}

func TestDoOfStatesThatAreNotRight(t *testing.T) {
	ops := slices.Concat(metaOps(), shardOps(), wrongOps())
	for i, c := range badStates() {
		// Of each state some of the ops; the ops shift from one to the next, so that each meets many.
		for j := i % 5; j < len(ops); j += 5 {
			wantDo(t, c.name, c.s, ops[j], impl.State{}, impl.Answer{Code: impl.AnBad})
		}
	}
	// An op that is not OpOk, or is of the other kind, and a state that is not right, both at once.
	bad := richMeta()
	bad.Mark = -1
	for _, o := range ops {
		wantDo(t, "both", bad, o, impl.State{}, impl.Answer{Code: impl.AnBad})
	}
}

func TestDoOfOpsThatAreNotOk(t *testing.T) {
	for _, s := range []impl.State{richMeta(), fullMeta(), metaState(0, 0), richShard(), fullShard(), shardState(impl.Engine{})} {
		for _, o := range wrongOps() {
			wantSame(t, "not OpOk", s, o, impl.Answer{Code: impl.AnBad})
		}
	}
}

func TestDoAtTheOtherKind(t *testing.T) {
	for _, s := range []impl.State{richMeta(), fullMeta(), metaState(0, 0), metaState(0, farTime)} {
		for _, o := range shardOps() {
			wantSame(t, "an op of a shard", s, o, impl.Answer{Code: impl.AnNone})
		}
	}
	for _, s := range []impl.State{richShard(), fullShard(), shardState(impl.Engine{}), shardState(impl.Engine{Floor: farTime})} {
		for _, o := range metaOps() {
			wantSame(t, "an op of a meta", s, o, impl.Answer{Code: impl.AnNone})
		}
	}
	for _, c := range rightStates() {
		for _, o := range append(metaOps(), shardOps()...) {
			if _, a := impl.StateDo(c.s, o); (a.Code == impl.AnNone) != (o.Kind <= impl.OmHold && c.s.Kind == impl.KdShard || o.Kind > impl.OmHold && c.s.Kind == impl.KdMeta) {
				t.Fatalf("%s: StateDo by %s answers %s", c.name, brief(o), brief(a))
			}
		}
	}
}

// A routeCase is a route over buckets, and what comes of it: what all buckets are then, and which are told.
type routeCase struct {
	name       string
	mark       int
	buckets    []impl.Bucket
	from, to   int
	next, told []impl.Bucket
}

func TestRouteTaken(t *testing.T) {
	six := dealt(0, 0, 1, 0, 2, 0, 5, 1, 6, 1, 7, 1)
	for _, c := range []routeCase{
		{"the first bucket", 0, nil, 0, 1, dealt(0, 0), dealt(0, 0)},
		{"another first bucket", 0, nil, 777, 778, dealt(7, 0), dealt(7, 0)},
		{"the second bucket", 0, dealt(7, 0), 0, 100, dealt(0, 1, 7, 0), dealt(0, 1)},
		{"two at once", 0, nil, 99, 101, inTurn(0, 2), inTurn(0, 2)},
		{"to a bucket's first time", 0, nil, 99, 100, inTurn(0, 1), inTurn(0, 1)},
		{"MaxCover buckets", 0, nil, 0, 800, inTurn(0, 8), inTurn(0, 8)},
		{"MaxCover buckets, from a last time to a first one", 0, nil, 99, 701, inTurn(0, 8), inTurn(0, 8)},
		{"the last bucket", 0, nil, farTime - 1, farTime, dealt(farBucket, 0), dealt(farBucket, 0)},
		{"the last buckets", 0, nil, farTime - 776, farTime, inTurn(farBucket-7, 8), inTurn(farBucket-7, 8)},
		{"Numbers of two bytes", 0, nil, 12700, 12901, inTurn(127, 3), inTurn(127, 3)},
		{"dealt already", 0, dealt(3, 1), 300, 400, dealt(3, 1), dealt(3, 1)},
		{"dealt already, among others", 0, six, 150, 201, six, dealt(1, 0, 2, 0)},
		{"dealt already, and one more", 0, dealt(3, 1), 300, 500, dealt(3, 1, 4, 0), dealt(3, 1, 4, 0)},
		{"some dealt already, with fewest at the first shard", 0, dealt(1, 1, 3, 1), 0, 500, dealt(0, 0, 1, 1, 2, 0, 3, 1, 4, 0), dealt(0, 0, 1, 1, 2, 0, 3, 1, 4, 0)},
		{"some dealt already, with fewest at the second shard", 0, dealt(1, 0, 3, 0), 0, 500, dealt(0, 1, 1, 0, 2, 1, 3, 0, 4, 0), dealt(0, 1, 1, 0, 2, 1, 3, 0, 4, 0)},
		{"fewest counts buckets that are not asked for", 0, dealt(50, 1, 60, 1, 70, 1), 0, 500, dealt(0, 0, 1, 0, 2, 0, 3, 0, 4, 1, 50, 1, 60, 1, 70, 1), dealt(0, 0, 1, 0, 2, 0, 3, 0, 4, 1)},
		{"equally many at both", 0, six, 300, 301, dealt(0, 0, 1, 0, 2, 0, 3, 0, 5, 1, 6, 1, 7, 1), dealt(3, 0)},
		{"one more at the first", 0, dealt(0, 0), 100, 101, dealt(0, 0, 1, 1), dealt(1, 1)},
		{"one more at the second", 0, dealt(0, 1), 100, 101, dealt(0, 1, 1, 0), dealt(1, 0)},
		{"two more at the first", 0, dealt(0, 0, 1, 0), 200, 500, dealt(0, 0, 1, 0, 2, 1, 3, 1, 4, 0), dealt(2, 1, 3, 1, 4, 0)},
		{"a bucket that is past", 200, nil, 0, 300, dealt(2, 0), dealt(2, 0)},
		{"just not past", 199, nil, 0, 300, dealt(1, 0, 2, 1), dealt(1, 0, 2, 1)},
		{"half past", 150, nil, 0, 300, dealt(1, 0, 2, 1), dealt(1, 0, 2, 1)},
		{"half past and dealt already", 150, dealt(1, 1), 0, 300, dealt(1, 1, 2, 0), dealt(1, 1, 2, 0)},
		{"half past, asked for below the mark alone", 150, nil, 100, 120, dealt(1, 0), dealt(1, 0)},
		{"all are past", 200, nil, 0, 200, nil, nil},
		{"all are past, and others dealt", 200, dealt(2, 1, 9, 0), 0, 200, dealt(2, 1, 9, 0), nil},
		{"all are long past", 100000, nil, 0, 800, nil, nil},
		{"past, dealt already and not dealt yet", 350, dealt(3, 1, 5, 0), 100, 700, dealt(3, 1, 4, 0, 5, 0, 6, 1), dealt(3, 1, 4, 0, 5, 0, 6, 1)},
		{"MaxCover buckets, seven are past", 700, nil, 0, 800, dealt(7, 0), dealt(7, 0)},
		{"the last bucket at Mark MaxTime", farTime, nil, farTime - 176, farTime, dealt(farBucket, 0), dealt(farBucket, 0)},
		{"up to MaxBuckets by one", 0, inTurn(3, 11), 200, 300, append(dealt(2, 1), inTurn(3, 11)...), dealt(2, 1)},
		{"up to MaxBuckets behind", 0, inTurn(3, 11), 1400, 1401, append(inTurn(3, 11), dealt(14, 1)...), dealt(14, 1)},
		{"up to MaxBuckets by eight", 0, inTurn(0, 4), 5000, 5800, append(inTurn(0, 4), inTurn(50, 8)...), inTurn(50, 8)},
		{"up to MaxBuckets by two of four", 0, inTurn(0, 10), 800, 1200, inTurn(0, 12), inTurn(8, 4)},
		{"MaxBuckets, all dealt already", 0, inTurn(3, 12), 300, 1100, inTurn(3, 12), inTurn(3, 8)},
		{"MaxBuckets, the last ones", 0, inTurn(3, 12), 700, 1500, inTurn(3, 12), inTurn(7, 8)},
		{"MaxBuckets, past and dealt already", 300, inTurn(3, 12), 0, 500, inTurn(3, 12), inTurn(3, 2)},
		{"MaxBuckets, all past", 300, inTurn(3, 12), 0, 300, inTurn(3, 12), nil},
	} {
		for _, hold := range []int{0, 30} {
			s := metaState(hold, c.mark, c.buckets...)
			wantDo(t, c.name, s, routeOp(c.from, c.to), metaState(hold, c.mark, c.next...), impl.Answer{Mark: c.mark, Data: toldRoute(c.told)})
			s = withSessions(s, allSessions()...)
			next := wantDo(t, c.name, s, routeOp(c.from, c.to), withSessions(metaState(hold, c.mark, c.next...), allSessions()...), impl.Answer{Mark: c.mark, Data: toldRoute(c.told)})
			// Asked for once more, all is dealt already.
			wantSame(t, c.name, next, routeOp(c.from, c.to), impl.Answer{Mark: c.mark, Data: toldRoute(c.told)})
		}
		if l, ok := impl.Routes(toldRoute(c.told)); !ok || !slices.Equal(l, c.told) {
			t.Errorf("%s: Routes = %v, %v", c.name, l, ok)
		}
	}
}

func TestRouteRefused(t *testing.T) {
	for _, c := range []struct {
		name     string
		mark     int
		buckets  []impl.Bucket
		from, to int
		code     int
	}{
		{"one more than MaxCover", 0, nil, 0, 801, impl.AnBad},
		{"one more than MaxCover, by the first time", 0, nil, 99, 900, impl.AnBad},
		{"one more than MaxCover, though one is past", 100, nil, 0, 801, impl.AnBad},
		{"one more than MaxCover, though all are past", 90000, nil, 0, 801, impl.AnBad},
		{"one more than MaxCover, all dealt already", 0, inTurn(0, 12), 0, 900, impl.AnBad},
		{"far more", 0, inTurn(0, 12), 0, farTime, impl.AnBad},
		{"more than MaxCover, and more than MaxBuckets", 5, inTurn(50, 12), 0, 900, impl.AnBad},
		{"one more than MaxBuckets", 0, inTurn(3, 12), 200, 300, impl.AnFull},
		{"one more than MaxBuckets, behind", 0, inTurn(3, 12), 1500, 1501, impl.AnFull},
		{"one more than MaxBuckets, some dealt already", 0, inTurn(3, 12), 1200, 1600, impl.AnFull},
		{"two more to eleven, side by side", 0, inTurn(3, 11), 100, 300, impl.AnFull},
		{"two more to eleven, behind one of them", 0, inTurn(3, 11), 1300, 1600, impl.AnFull},
		{"eight more to five", 0, inTurn(3, 5), 5000, 5800, impl.AnFull},
		{"three more to ten, some dealt already", 0, inTurn(0, 10), 800, 1300, impl.AnFull},
		{"one too many, half past", 250, inTurn(3, 12), 0, 300, impl.AnFull},
		{"one too many, at a gap", 0, append(inTurn(0, 6), inTurn(7, 6)...), 500, 800, impl.AnFull},
	} {
		s := withSessions(metaState(7, c.mark, c.buckets...), allSessions()...)
		wantSame(t, c.name, s, routeOp(c.from, c.to), impl.Answer{Code: c.code})
	}
}

// All sets of dealt buckets of a few, each at each shard, with marks and spans about them.
func TestRouteOfAllFewBuckets(t *testing.T) {
	codes := map[int]int{}
	for set := range 81 {
		var buckets []impl.Bucket
		for number, left := 0, set; number < 4; number, left = number+1, left/3 {
			if left%3 > 0 {
				buckets = append(buckets, impl.Bucket{Number: number, Shard: left%3 - 1})
			}
		}
		for _, mark := range []int{0, 50, 99, 100, 101, 199, 200, 300, 400} {
			s := metaState(0, mark, slices.DeleteFunc(slices.Clone(buckets), func(b impl.Bucket) bool { return slowPast(b.Number, mark) })...)
			for from := 0; from <= 500; from += 100 {
				for to := from + 100; to <= 600; to += 100 {
					_, a := wantDoWords(t, "few", s, routeOp(from, to-1))
					codes[a.Code]++
				}
			}
			// More than there is room for.
			s.Buckets = append(s.Buckets, inTurn(20, 8)...)
			_, a := wantDoWords(t, "few", s, routeOp(0, 600))
			codes[a.Code]++
		}
	}
	if codes[impl.AnOk] < 10000 || codes[impl.AnFull] < 300 || len(codes) != 2 {
		t.Errorf("codes %v", codes)
	}
}

func TestMarkRises(t *testing.T) {
	l := dealt(0, 0, 1, 1, 2, 0, 3, 1, 9, 0)
	for _, c := range []struct {
		name             string
		hold, mark, from int
		buckets          []impl.Bucket
		next             int
		left             []impl.Bucket
	}{
		{"from 0 to 0", 0, 0, 0, l, 0, l},
		{"from 0 to 1", 0, 0, 1, l, 1, l},
		{"below Mark", 0, 50, 49, l, 50, l},
		{"at Mark", 0, 50, 50, l, 50, l},
		{"above Mark", 0, 50, 51, l, 51, l},
		{"far below Mark", 0, 50, 0, l, 50, l},
		{"below Mark by Hold", 30, 50, 79, l, 50, l},
		{"at Mark by Hold", 30, 50, 80, l, 50, l},
		{"above Mark by Hold", 30, 50, 81, l, 51, l},
		{"above Mark, but not by Hold", 30, 50, 60, l, 50, l},
		{"less than Hold", 30, 0, 10, l, 0, l},
		{"as much as Hold", 30, 0, 30, l, 0, l},
		{"one more than Hold", 30, 0, 31, l, 1, l},
		{"less than MaxHold", 100000, 0, 99999, l, 0, l},
		{"above MaxHold", 100000, 0, 100001, l, 1, l},
		{"to the last time of a bucket", 0, 0, 99, l, 99, l},
		{"the first bucket is just past", 0, 0, 100, l, 100, l[1:]},
		{"the first bucket is past", 0, 0, 101, l, 101, l[1:]},
		{"the first bucket is just past from its last time on", 0, 99, 100, l, 100, l[1:]},
		{"to the last time by Hold", 30, 0, 129, l, 99, l},
		{"just past by Hold", 30, 0, 130, l, 100, l[1:]},
		{"past, but not by Hold", 30, 0, 120, l, 90, l},
		{"two are just past", 0, 99, 200, l, 200, l[2:]},
		{"two are past, the third half", 0, 0, 250, l, 250, l[2:]},
		{"all but the last", 0, 0, 900, l, 900, l[4:]},
		{"the last one is half past", 0, 0, 999, l, 999, l[4:]},
		{"all are past", 0, 0, 1000, l, 1000, nil},
		{"all are long past", 0, 0, farTime, l, farTime, nil},
		{"no buckets", 5, 10, 5000, nil, 4995, nil},
		{"MaxTime twice", 0, farTime, farTime, nil, farTime, nil},
		{"MaxTime by Hold", 1, farTime - 1, farTime, nil, farTime - 1, nil},
		{"the last bucket is never past", 0, 0, farTime, dealt(farBucket-1, 1, farBucket, 0), farTime, dealt(farBucket, 0)},
		{"the bucket ahead of the last", 0, 0, farTime - 77, dealt(farBucket-1, 1, farBucket, 0), farTime - 77, dealt(farBucket-1, 1, farBucket, 0)},
		{"the bucket ahead of the last is just past", 0, 0, farTime - 76, dealt(farBucket-1, 1, farBucket, 0), farTime - 76, dealt(farBucket, 0)},
		{"MaxBuckets", 0, 300, 850, inTurn(3, 12), 850, inTurn(3, 12)[5:]},
	} {
		for _, sessions := range [][]impl.Session{nil, allSessions()} {
			s := withSessions(metaState(c.hold, c.mark, c.buckets...), sessions...)
			next := wantDo(t, c.name, s, markOp(c.from), withSessions(metaState(c.hold, c.next, c.left...), sessions...), impl.Answer{Mark: c.next})
			wantSame(t, c.name, next, markOp(c.from), impl.Answer{Mark: c.next})
			wantSame(t, c.name, next, markOp(0), impl.Answer{Mark: c.next})
		}
	}
}

// A mark that rises time by time takes each bucket away just when it is past.
func TestMarkRisesTimeByTime(t *testing.T) {
	s := metaState(25, 0, inTurn(0, 6)...)
	for from := range 700 {
		s, _ = wantDoWords(t, "rising", s, markOp(from))
		mark := max(from-25, 0)
		gone := min(mark/100, 6)
		if s.Mark != mark || !slices.Equal(s.Buckets, inTurn(0, 6)[gone:]) {
			t.Fatalf("OmMark of %d leaves %s", from, brief(s))
		}
	}
}

// What went is neither told nor dealt again, and does not count for the shards any more.
func TestBucketsThatWent(t *testing.T) {
	s := metaState(0, 0, dealt(0, 0, 1, 0, 2, 0, 5, 1)...)
	s = wantDo(t, "mark", s, markOp(300), metaState(0, 300, dealt(5, 1)...), impl.Answer{Mark: 300})
	wantSame(t, "past", s, routeOp(0, 300), impl.Answer{Mark: 300})
	s = wantDo(t, "the first shard has none now", s, routeOp(200, 501), metaState(0, 300, dealt(3, 0, 4, 0, 5, 1)...), impl.Answer{Mark: 300, Data: "\x03\x00\x04\x00\x05\x01"})
	full := metaState(0, 0, inTurn(0, 12)...)
	wantSame(t, "full", full, routeOp(1200, 1300), impl.Answer{Code: impl.AnFull})
	full = wantDo(t, "mark", full, markOp(100), metaState(0, 100, inTurn(0, 12)[1:]...), impl.Answer{Mark: 100})
	full = wantDo(t, "room", full, routeOp(1200, 1300), metaState(0, 100, append(inTurn(0, 12)[1:], dealt(12, 0)...)...), impl.Answer{Mark: 100, Data: "\x0c\x00"})
	wantSame(t, "full again", full, routeOp(1300, 1301), impl.Answer{Code: impl.AnFull})
	wantSame(t, "past", full, routeOp(0, 100), impl.Answer{Mark: 100})
}

func TestHold(t *testing.T) {
	for _, hold := range []int{0, 1, 50, 100000} {
		for _, from := range []int{0, 1, 49, 50, 51, 99999, 100000} {
			for _, mark := range []int{0, 1, 250, farTime} {
				s := metaState(hold, mark, dealt(farBucket, 1)...)
				next := wantDo(t, "hold", s, holdOp(from), metaState(from, mark, dealt(farBucket, 1)...), impl.Answer{Mark: mark})
				wantSame(t, "hold again", next, holdOp(from), impl.Answer{Mark: mark})
			}
			s := withSessions(metaState(hold, 250, inTurn(2, 12)...), allSessions()...)
			next := copyState(s)
			next.Hold = from
			wantDo(t, "hold", s, holdOp(from), next, impl.Answer{Mark: 250})
		}
	}
	// A greater Hold does not let Mark fall, a lesser one does not raise it by itself.
	s := wantDo(t, "hold", metaState(0, 500), holdOp(300), metaState(300, 500), impl.Answer{Mark: 500})
	s = wantDo(t, "mark", s, markOp(700), metaState(300, 500), impl.Answer{Mark: 500})
	s = wantDo(t, "hold", s, holdOp(100), metaState(100, 500), impl.Answer{Mark: 500})
	wantDo(t, "mark", s, markOp(700), metaState(100, 600), impl.Answer{Mark: 600})
}

func TestWrite(t *testing.T) {
	empty := shardState(impl.Engine{})
	one := impl.Engine{Cache: []impl.Series{oneSeries("cpu", 10, 1)}}
	s := wantDo(t, "taken", empty, writeOp("cpu", pointsAt(10, 1)), shardState(one), impl.Answer{})
	wantSame(t, "the same again", s, writeOp("cpu", pointsAt(10, 1)), impl.Answer{})
	wantDo(t, "another value", s, writeOp("cpu", pointsAt(10, 7)), shardState(impl.Engine{Cache: []impl.Series{oneSeries("cpu", 10, 7)}}), impl.Answer{})
	wantDo(t, "another key", s, writeOp("mem", pointsAt(5, 2)), shardState(impl.Engine{Cache: []impl.Series{oneSeries("cpu", 10, 1), oneSeries("mem", 5, 2)}}), impl.Answer{})

	floor := shardState(impl.Engine{Floor: 100})
	wantSame(t, "late by one", floor, writeOp("cpu", pointsAt(99, 1)), impl.Answer{Code: impl.AnLate, Mark: 100})
	wantSame(t, "late at its first time", floor, writeOp("cpu", pointsAt(99, 1, 100, 2, 5000, 3)), impl.Answer{Code: impl.AnLate, Mark: 100})
	wantSame(t, "far late", floor, writeOp("cpu", pointsAt(0, 1)), impl.Answer{Code: impl.AnLate, Mark: 100})
	wantDo(t, "just not late", floor, writeOp("cpu", pointsAt(100, 1)), shardState(impl.Engine{Floor: 100, Cache: []impl.Series{oneSeries("cpu", 100, 1)}}), impl.Answer{Mark: 100})
	wantDo(t, "at MaxTime", shardState(impl.Engine{Floor: farTime}), writeOp("cpu", pointsAt(farTime, -5)), shardState(impl.Engine{Floor: farTime, Cache: []impl.Series{oneSeries("cpu", farTime, -5)}}), impl.Answer{Mark: farTime})
	wantSame(t, "late at MaxTime", shardState(impl.Engine{Floor: farTime}), writeOp("cpu", pointsAt(farTime-1, -5)), impl.Answer{Code: impl.AnLate, Mark: farTime})

	// Of fullEngine a has MaxPoints, there are MaxSeries keys, and MaxCache points in the cache.
	full := fullShard()
	wantSame(t, "a point too many", full, writeOp("a", pointsAt(160, 1)), impl.Answer{Code: impl.AnFull, Mark: 100})
	wantSame(t, "a key too many", full, writeOp("f", pointsAt(160, 1)), impl.Answer{Code: impl.AnFull, Mark: 100})
	wantSame(t, "late and full", full, writeOp("f", pointsAt(99, 1, 160, 1)), impl.Answer{Code: impl.AnLate, Mark: 100})
	wantSame(t, "late and full of points", full, writeOp("a", pointsAt(99, 1, 160, 1)), impl.Answer{Code: impl.AnLate, Mark: 100})
	next, a := wantDoWords(t, "another value", full, writeOp("a", pointsAt(110, 9)))
	if a != (impl.Answer{Mark: 100}) || len(next.Engine.Files) != 1 || len(next.Engine.Cache) != 0 {
		t.Errorf("flushed by a write: %s, %s", brief(a), brief(next.Engine))
	}
	next, a = wantDoWords(t, "MaxPoints at once", empty, writeOp("cpu", pointsEvery(0, 1, 60, 3)))
	if a != (impl.Answer{}) || len(next.Engine.Files) != 1 {
		t.Errorf("MaxPoints at once: %s, %s", brief(a), brief(next.Engine))
	}
	wantSame(t, "one more", next, writeOp("cpu", pointsAt(60, 3)), impl.Answer{Code: impl.AnFull})
}

func TestRead(t *testing.T) {
	s := richShard()
	for _, c := range []struct {
		name     string
		key      string
		from, to int
		want     []impl.Point
	}{
		{"all", "a", 0, farTime, pointsAt(20, 22, 30, 33, 40, 14, 50, 35)},
		{"all of another key", "b", 0, farTime, pointsAt(20, 2, 21, 3)},
		{"one of the cache alone", "c", 0, farTime, pointsAt(20, 1)},
		{"all below the floor", "d", 0, farTime, nil},
		{"one below the floor", "e", 0, farTime, pointsAt(25, 5)},
		{"no such key", "f", 0, farTime, nil},
		{"the first time", "a", 20, 21, pointsAt(20, 22)},
		{"to the first time", "a", 0, 20, nil},
		{"below the floor", "a", 10, 16, nil},
		{"from the second one on", "a", 21, 51, pointsAt(30, 33, 40, 14, 50, 35)},
		{"without the last one", "a", 0, 50, pointsAt(20, 22, 30, 33, 40, 14)},
		{"the last one", "a", 50, 51, pointsAt(50, 35)},
		{"behind the last one", "a", 51, farTime, nil},
		{"between two", "a", 31, 40, nil},
		{"up to the next", "a", 31, 41, pointsAt(40, 14)},
	} {
		wantSame(t, c.name, s, readOp(c.key, c.from, c.to), impl.Answer{Mark: 20, Data: slowShowBlock(c.want)})
	}
	wantSame(t, "no points", shardState(impl.Engine{}), readOp("a", 0, 1), impl.Answer{})
	wantSame(t, "no points, a floor", shardState(impl.Engine{Floor: farTime}), readOp("a", 0, 1), impl.Answer{Mark: farTime})
	wantSame(t, "a point at MaxTime is in no span", shardState(impl.Engine{Cache: []impl.Series{oneSeries("a", farTime-1, 1, farTime, 2)}}), readOp("a", 0, farTime), impl.Answer{Data: slowShowBlock(pointsAt(farTime-1, 1))})
	wantSame(t, "wider than MaxCover", shardState(impl.Engine{Cache: []impl.Series{oneSeries("a", 5, 1, 100005, 2)}}), readOp("a", 0, 200000), impl.Answer{Data: slowShowBlock(pointsAt(5, 1, 100005, 2))})
	wantSame(t, "MaxPoints", fullShard(), readOp("a", 0, farTime), impl.Answer{Mark: 100, Data: slowShowBlock(fullTold()[0].Points)})
}

// Blocks of many bytes are still Data of an Answer: MaxPoints points whose values swing from end to end, and times far and near in turn.
func TestLongReads(t *testing.T) {
	var l []impl.Point
	for i := range 60 {
		n := i * (farTime / 60)
		if i%2 == 1 {
			n = (i-1)*(farTime/60) + 1
		}
		l = append(l, impl.Point{T: n, V: farTime * (1 - 2*(i%2))})
	}
	block := slowShowBlock(l)
	if !within(len(block), 700, 900) {
		t.Fatalf("the block has %d bytes", len(block))
	}
	s := wantDo(t, "written", shardState(impl.Engine{}), writeOp("a", l), shardState(impl.Engine{Files: []string{fileOf(impl.Series{Key: "a", Points: l})}}), impl.Answer{})
	wantSame(t, "read", s, readOp("a", 0, farTime), impl.Answer{Data: block})
	wantServe(t, "served", s, served{1, 1, readOp("a", 0, farTime), 3}, withSessions(s, impl.Session{Client: 1, Serial: 1, Answer: impl.Answer{Index: 3, Data: block}}), impl.Answer{Index: 3, Data: block}, true)
}

func TestRaiseOp(t *testing.T) {
	rich := richShard()
	for _, n := range []int{0, 1, 19, 20} {
		wantSame(t, "not above Floor", rich, raiseOp(n), impl.Answer{Mark: 20})
	}
	for _, n := range []int{21, 30, 31, 50, 51, 1000, farTime - 1, farTime} {
		next, a := wantDoWords(t, "above Floor", rich, raiseOp(n))
		if a != (impl.Answer{Mark: n}) || next.Engine.Floor != n || !slices.Equal(next.Sessions, rich.Sessions) {
			t.Errorf("OsRaise to %d: %s, %s", n, brief(a), brief(next))
		}
		wantSame(t, "back again", next, raiseOp(20), impl.Answer{Mark: n})
	}
	wantDo(t, "the cache goes", shardState(impl.Engine{Cache: []impl.Series{oneSeries("a", 5, 1, 9, 2), oneSeries("b", 8, 1)}}), raiseOp(9), shardState(impl.Engine{Floor: 9, Cache: []impl.Series{oneSeries("a", 9, 2)}}), impl.Answer{Mark: 9})
	wantSame(t, "0 of nothing", shardState(impl.Engine{}), raiseOp(0), impl.Answer{})
	wantDo(t, "1 of nothing", shardState(impl.Engine{}), raiseOp(1), shardState(impl.Engine{Floor: 1}), impl.Answer{Mark: 1})
}

func TestFlushOp(t *testing.T) {
	a := oneSeries("a", 5, 1)
	wantSame(t, "nothing", shardState(impl.Engine{}), flushOp(), impl.Answer{})
	wantSame(t, "an empty cache", shardState(impl.Engine{Floor: 3, Files: []string{fileOf(a)}}), flushOp(), impl.Answer{Mark: 3})
	wantDo(t, "a cache", withSessions(shardState(impl.Engine{Floor: 3, Cache: []impl.Series{a}}), allSessions()...), flushOp(), withSessions(shardState(impl.Engine{Floor: 3, Files: []string{fileOf(a)}}), allSessions()...), impl.Answer{Mark: 3})
	next, told := wantDoWords(t, "MaxFiles files", fullShard(), flushOp())
	if told != (impl.Answer{Mark: 100}) || !sameEngine(next.Engine, impl.Engine{Floor: 100, Files: []string{fileOf(fullTold()...)}}) {
		t.Errorf("OsFlush: %s, %s", brief(told), brief(next))
	}
}

// Each op of each right state does what the words say.
func TestDoOfRightStates(t *testing.T) {
	ops := append(metaOps(), shardOps()...)
	for i, c := range rightStates() {
		for j := i % 3; j < len(ops); j += 3 {
			wantDoWords(t, c.name, c.s, ops[j])
		}
	}
}

// wantServe tells where Serve answers otherwise than wanted, where the words say something else, or where it writes into the state that it is handed; a right state must stay right.
func wantServe(t *testing.T, name string, s impl.State, c served, want impl.State, wantAnswer impl.Answer, wantDid bool) impl.State {
	t.Helper()
	ahead := copyState(s)
	got, a, did := c.do(s)
	if !sameState(got, want) || a != wantAnswer || did != wantDid {
		t.Fatalf("%s: Serve of %s\nby %s\n= %s, %s, %v\nwant %s, %s, %v", name, brief(ahead), brief(c), brief(got), brief(a), did, brief(want), brief(wantAnswer), wantDid)
	}
	if said, saidAnswer, saidDid := slowServe(s, c); !sameState(said, want) || saidAnswer != wantAnswer || saidDid != wantDid {
		t.Fatalf("%s: Serve of %s\nby %s\nby the words = %s, %s, %v", name, brief(ahead), brief(c), brief(said), brief(saidAnswer), saidDid)
	}
	if !sameState(s, ahead) || slowStateOk(s) && !impl.StateOk(got) {
		t.Fatalf("%s: Serve of %s\nby %s\nmade it %s, or %s is not right", name, brief(ahead), brief(c), brief(s), brief(got))
	}
	return got
}

// wantServeWords wants what the words say; where the call was done, it is told the same when it is served again.
func wantServeWords(t *testing.T, name string, s impl.State, c served) (impl.State, impl.Answer, bool) {
	t.Helper()
	want, a, did := slowServe(s, c)
	next := wantServe(t, name, s, c, want, a, did)
	if did {
		wantServe(t, name+", again", next, c, next, a, false)
		wantServe(t, name+", again with another op", next, served{c.client, c.serial, holdOp(17), 1}, next, a, false)
	}
	return next, a, did
}

// wantNothing wants the state as it is, and the zero Answer.
func wantNothing(t *testing.T, name string, s impl.State, c served) {
	t.Helper()
	wantServe(t, name, s, c, s, impl.Answer{}, false)
}

func TestServeEdges(t *testing.T) {
	hold := holdOp(5)
	for _, s := range []impl.State{metaState(3, 9), withSessions(metaState(3, 9), sessionAt(2, 6))} {
		for _, client := range []int{math.MinInt, -1, 0, 5, 6, math.MaxInt} {
			for _, serial := range []int{1, 6, 7} {
				wantNothing(t, "a client that is none", s, served{client, serial, hold, 1})
			}
		}
		for _, client := range []int{1, 3, 4} {
			for _, serial := range []int{math.MinInt, -1, 0, 2, 3, 1000000, 1000001, math.MaxInt} {
				wantNothing(t, "a first serial that is not 1", s, served{client, serial, hold, 1})
			}
			for _, index := range []int{math.MinInt, -1, 0, 100001, math.MaxInt} {
				wantNothing(t, "an index that is none", s, served{client, 1, hold, index})
			}
			for _, index := range []int{1, 2, 99999, 100000} {
				told := impl.Answer{Index: index, Mark: 9}
				next := metaState(5, 9)
				next.Sessions = append(slices.Clone(s.Sessions), impl.Session{Client: client, Serial: 1, Answer: told})
				slices.SortFunc(next.Sessions, func(a, b impl.Session) int { return a.Client - b.Client })
				wantServe(t, "the first serial", s, served{client, 1, hold, index}, next, told, true)
			}
		}
	}
}

func TestServeSerials(t *testing.T) {
	for _, last := range []int{1, 2, 5, 77, 999998, 999999, 1000000} {
		s := withSessions(metaState(3, 9), sessionAt(1, 1), sessionAt(2, last), sessionAt(3, last))
		told := sessionAt(2, last).Answer
		for _, o := range []impl.Op{holdOp(5), flushOp(), {}, routeOp(0, 800)} {
			for _, index := range []int{1, 7, 100000} {
				wantServe(t, "the last serial again", s, served{2, last, o, index}, s, told, false)
				for _, serial := range []int{math.MinInt, -1, 0, last - 1, last + 2, last + 3, 1000001, math.MaxInt} {
					wantNothing(t, "a serial out of its turn", s, served{2, serial, o, index})
				}
			}
			for _, index := range []int{0, 100001} {
				wantNothing(t, "the last serial again, with an index that is none", s, served{2, last, o, index})
				wantNothing(t, "the one behind the last, with an index that is none", s, served{2, last + 1, o, index})
			}
		}
		if last == 1000000 {
			wantNothing(t, "behind MaxSerial", s, served{2, last + 1, holdOp(5), 8})
			continue
		}
		a := impl.Answer{Index: 8, Mark: 9}
		want := withSessions(metaState(5, 9), sessionAt(1, 1), impl.Session{Client: 2, Serial: last + 1, Answer: a}, sessionAt(3, last))
		next := wantServe(t, "the one behind the last", s, served{2, last + 1, holdOp(5), 8}, want, a, true)
		wantServe(t, "again", next, served{2, last + 1, holdOp(6), 9}, next, a, false)
		wantNothing(t, "the one that came before", next, served{2, last, holdOp(6), 9})
		wantNothing(t, "one further", next, served{2, last + 3, holdOp(6), 9})
	}
}

// Clients come in any order, and their Sessions rise all the same.
func TestServeOfNewClients(t *testing.T) {
	for _, order := range [][]int{{1, 2, 3, 4}, {4, 3, 2, 1}, {3, 1, 4, 2}, {2, 4, 1, 3}} {
		s := shardState(impl.Engine{})
		for i, client := range order {
			var did bool
			s, _, did = wantServeWords(t, "new", s, served{client, 1, writeOp("a", pointsAt(client, i)), i + 1})
			if !did || len(s.Sessions) != i+1 {
				t.Fatalf("client %d: %v, %s", client, did, brief(s))
			}
		}
		for i, client := range order {
			if last := s.Sessions[client-1]; last != (impl.Session{Client: client, Serial: 1, Answer: impl.Answer{Index: i + 1}}) {
				t.Errorf("client %d has %s", client, brief(last))
			}
		}
	}
}

// A refused call's answer is kept and told again as any other, and all but the Sessions stays as it is.
func TestServeOfRefusedCalls(t *testing.T) {
	for _, c := range []struct {
		name string
		s    impl.State
		o    impl.Op
		want impl.Answer
	}{
		{"not OpOk", richMeta(), impl.Op{}, impl.Answer{Code: impl.AnBad, Index: 40}},
		{"not OpOk at a shard", richShard(), raiseOp(-1), impl.Answer{Code: impl.AnBad, Index: 40}},
		{"too wide", richMeta(), routeOp(0, 900), impl.Answer{Code: impl.AnBad, Index: 40}},
		{"full of buckets", fullMeta(), routeOp(0, 1), impl.Answer{Code: impl.AnFull, Index: 40}},
		{"the other kind", richMeta(), flushOp(), impl.Answer{Code: impl.AnNone, Index: 40}},
		{"the other kind at a shard", richShard(), holdOp(1), impl.Answer{Code: impl.AnNone, Index: 40}},
		{"late", richShard(), writeOp("a", pointsAt(19, 1)), impl.Answer{Code: impl.AnLate, Index: 40, Mark: 20}},
		{"full of keys", fullShard(), writeOp("f", pointsAt(200, 1)), impl.Answer{Code: impl.AnFull, Index: 40, Mark: 100}},
	} {
		s := withSessions(c.s, sessionAt(2, 7))
		want := withSessions(c.s, impl.Session{Client: 2, Serial: 8, Answer: c.want})
		next := wantServe(t, c.name, s, served{2, 8, c.o, 40}, want, c.want, true)
		wantServe(t, c.name+", again", next, served{2, 8, c.o, 41}, next, c.want, false)
		wantNothing(t, c.name+", the one ahead of it", next, served{2, 7, c.o, 41})
		// The one behind a refused call is in its turn.
		o, told := holdOp(1), impl.Answer{Index: 42, Mark: c.s.Mark}
		if c.s.Kind == impl.KdShard {
			o, told = readOp("none", 0, 1), impl.Answer{Index: 42, Mark: c.s.Engine.Floor}
		}
		if _, a, did := wantServeWords(t, c.name+", the one behind it", next, served{2, 9, o, 42}); !did || a != told {
			t.Errorf("%s: the one behind it answers %s, %v", c.name, brief(a), did)
		}
	}
}

// A state that is not right is named ahead of all else.
func TestServeOfStatesThatAreNotRight(t *testing.T) {
	calls := []served{{1, 1, holdOp(5), 1}, {2, 3, flushOp(), 9}, {2, 4, flushOp(), 9}, {0, 1, holdOp(5), 1}, {5, 1, holdOp(5), 1}, {1, 0, holdOp(5), 1}, {1, 1, holdOp(5), 0}, {1, 1, impl.Op{}, 1}, {1, 1000001, holdOp(5), 100001}}
	for i, c := range badStates() {
		for j := i % 3; j < len(calls); j += 3 {
			wantServe(t, c.name, c.s, calls[j], impl.State{}, impl.Answer{}, false)
		}
	}
}

func TestServeOfRightStates(t *testing.T) {
	ops := slices.Concat(metaOps(), shardOps(), wrongOps())
	for i, c := range rightStates() {
		for client := range 6 {
			last := slowSession(c.s, client).Serial
			for _, serial := range []int{last - 1, last, last + 1, last + 2} {
				wantServeWords(t, c.name, c.s, served{client, serial, ops[(i+7*client)%len(ops)], 1 + i})
			}
		}
	}
}

// wantRoutes tells where Routes answers otherwise than wanted, or than the words say.
func wantRoutes(t *testing.T, name, data string, want []impl.Bucket, ok bool) {
	t.Helper()
	l, got := impl.Routes(data)
	said, saidOk := slowRoutes(data)
	if !slices.Equal(l, want) || got != ok || !slices.Equal(said, want) || saidOk != ok {
		t.Fatalf("%s: Routes(%s) = %v, %v, the words say %v, %v, want %v, %v", name, brief(data), l, got, said, saidOk, want, ok)
	}
}

func TestRoutesRight(t *testing.T) {
	wantRoutes(t, "empty", "", nil, true)
	wantRoutes(t, "one", "\x00\x00", dealt(0, 0), true)
	wantRoutes(t, "two", "\x02\x00\x07\x01", dealt(2, 0, 7, 1), true)
	wantRoutes(t, "two bytes", "\x7f\x01\x80\x01\x00\xac\x02\x01", dealt(127, 1, 128, 0, 300, 1), true)
	for _, l := range [][]impl.Bucket{inTurn(0, 7), inTurn(0, 8), everyBucket(5, 8, 1), inTurn(farBucket-7, 8), dealt(0, 1, farBucket, 0), dealt(farBucket-1, 1), dealt(farBucket, 1)} {
		wantRoutes(t, "right", toldRoute(l), l, true)
	}
}

func TestRoutesThatAreNotRight(t *testing.T) {
	for name, data := range map[string]string{
		"a Number alone": "\x05", "two and a Number": "\x05\x00\x06", "a Var without an end": "\x80", "a Shard without an end": "\x05\x80", "a Var of eight bytes": "\x80\x80\x80\x80\x80\x80\x80\x01\x00",
		"a needless byte in Number": "\x85\x00\x00", "a needless byte in Shard": "\x05\x80\x00", "a needless byte behind": "\x05\x01\x00", "far too long": strings.Repeat("\x00", 1000000), "no Var": strings.Repeat("\xff", 100),
		"Numbers that stay": vars(5, 0, 5, 1), "a bucket twice": vars(5, 1, 5, 1), "Numbers that fall": vars(5, 0, 4, 1), "the last Number stays": vars(1, 0, 5, 0, 5, 0), "the last Number falls": vars(1, 0, 5, 0, 2, 0), "0 behind 0": vars(0, 0, 0, 0),
		"Number behind the last bucket": vars(farBucket+1, 0), "the last Number behind the last bucket": vars(farBucket, 0, farBucket+1, 0), "the greatest Number": vars(impl.MaxVar, 0),
		"Shard MaxShards": vars(5, 2), "Shard MaxShards at the last one": vars(5, 1, 6, 2), "Shard MaxShards at the first one": vars(5, 2, 6, 1), "the greatest Shard": vars(5, impl.MaxVar), "Shard 128": vars(5, 128),
		"one more than MaxCover": toldRoute(inTurn(0, 9)), "one more than MaxCover at one shard": toldRoute(everyBucket(7, 9, 0)), "far more": toldRoute(inTurn(0, 2000)), "MaxCover and a Number": toldRoute(inTurn(0, 8)) + "\x09",
	} {
		wantRoutes(t, name, data, nil, false)
	}
	// Cut off anywhere: what is whole by chance are the buckets ahead of it.
	for _, l := range [][]impl.Bucket{inTurn(3, 8), inTurn(127, 4), inTurn(farBucket-7, 8), dealt(5, 1, 300, 0, farBucket, 1)} {
		data, whole := toldRoute(l), map[int]int{}
		for i := range l {
			whole[len(toldRoute(l[:i+1]))] = i + 1
		}
		for cut := 1; cut < len(data); cut++ {
			many, ok := whole[cut]
			wantRoutes(t, "cut off", data[:cut], l[:many], ok)
		}
	}
}

// All short texts over some bytes, and routes by chance, now and then turned.
func TestRoutesAgainstTheWords(t *testing.T) {
	right := 0
	for _, data := range textsOf("\x00\x01\x02\x7f\x80\xff", 5) {
		l, ok := slowRoutes(data)
		wantRoutes(t, "short", data, l, ok)
		if ok {
			right++
		}
	}
	r := rand.New(rand.NewPCG(12, 1))
	for range 20000 {
		n := pick(r, 0, r.IntN(200), r.IntN(farBucket), farBucket-r.IntN(10))
		var l []impl.Bucket
		for range r.IntN(10) {
			l = append(l, impl.Bucket{Number: n, Shard: r.IntN(2)})
			n += pick(r, 1, 1, 1, 1, 1+r.IntN(300))
		}
		data := toldRoute(l)
		if r.IntN(2) == 0 {
			data = someText(r, data)
		}
		said, ok := slowRoutes(data)
		wantRoutes(t, "by chance", data, said, ok)
		if ok {
			right++
		}
	}
	if right < 8000 {
		t.Errorf("%d are right", right)
	}
}

// someMetaOp is an op by chance near the mark, now and then of another kind or not OpOk.
func someMetaOp(r *rand.Rand, s impl.State) impl.Op {
	near := max(0, s.Mark+r.IntN(1500)-500)
	switch r.IntN(12) {
	case 0, 1, 2:
		return markOp(min(max(0, s.Mark+s.Hold+pick(r, -100, -1, 0, 1, r.IntN(150), 100-s.Mark%100, 99-s.Mark%100)), farTime))
	case 3:
		return holdOp(pick(r, 0, 1, r.IntN(300), 100, 100000))
	case 4:
		return pick(r, append(shardOps(), wrongOps()...)...)
	case 5:
		return routeOp(near, near+pick(r, 800, 801, 1000, r.IntN(2000)))
	}
	return routeOp(near, min(near+pick(r, 1, r.IntN(100), r.IntN(300), r.IntN(700)), farTime))
}

// A dealing is what was ever dealt: of each bucket its shard, and whether it is past.
type dealing struct {
	shards map[int]int
	mark   int
}

// wantKept wants each bucket that was dealt and is not past at its shard, none that is past, and a mark that does not fall.
func (d *dealing) wantKept(t *testing.T, s impl.State, a impl.Answer, asked impl.Op) int {
	t.Helper()
	if s.Mark < d.mark {
		t.Fatalf("Mark falls from %d to %d", d.mark, s.Mark)
	}
	d.mark = s.Mark
	told, _ := impl.Routes(a.Data)
	for _, b := range append(told, s.Buckets...) {
		if shard, was := d.shards[b.Number]; was && shard != b.Shard {
			t.Fatalf("%s: bucket %d was at shard %d, is at %d", brief(asked), b.Number, shard, b.Shard)
		}
		if slowPast(b.Number, s.Mark) {
			t.Fatalf("%s: bucket %d is past for %d, and told or kept", brief(asked), b.Number, s.Mark)
		}
		d.shards[b.Number] = b.Shard
	}
	past := 0
	for number, shard := range d.shards {
		if slowPast(number, s.Mark) {
			past++
		} else if slowShardOf(s.Buckets, number) != shard {
			t.Fatalf("%s: bucket %d went from shard %d", brief(asked), number, shard)
		}
	}
	return past
}

func TestDealingByChance(t *testing.T) {
	r := rand.New(rand.NewPCG(12, 2))
	codes := map[int]int{}
	past, most := 0, 0
	for walk := range 150 {
		s := metaState(0, 0)
		if walk%5 == 0 {
			s.Mark = farTime - 8000
		}
		d := dealing{map[int]int{}, 0}
		for range 120 {
			o := someMetaOp(r, s)
			next, a := wantDoWords(t, "by chance", s, o)
			s = next
			past += d.wantKept(t, s, a, o)
			most = max(most, len(s.Buckets))
			codes[a.Code]++
		}
	}
	if codes[impl.AnOk] < 5000 || codes[impl.AnBad] < 500 || codes[impl.AnFull] < 300 || codes[impl.AnNone] < 100 || past < 5000 || most != 12 {
		t.Errorf("codes %v, %d past, at most %d buckets", codes, past, most)
	}
}

// someShardOp is an op by chance near the floor, now and then of another kind or not OpOk.
func someShardOp(r *rand.Rand, floor int) impl.Op {
	switch r.IntN(15) {
	case 0:
		return flushOp()
	case 1, 2:
		return raiseOp(max(0, floor+pick(r, -1, 0, 1, 2, r.IntN(20), r.IntN(80))))
	case 3, 4:
		from := max(0, floor+r.IntN(60)-10)
		return readOp(someKey(r), from, from+pick(r, 1, r.IntN(30), r.IntN(200)))
	case 5:
		return pick(r, append(metaOps(), wrongOps()...)...)
	}
	return writeOp(someKey(r), somePuts(r, floor))
}

// wantReadFrom wants OsRead to tell what the list has, and to change nothing.
func wantReadFrom(t *testing.T, s impl.State, m putList, key string, from, to int) {
	t.Helper()
	want := impl.Answer{Mark: m.floor, Data: slowShowBlock(slowSlice(m.has(key), from, to))}
	if next, a := impl.StateDo(s, readOp(key, from, to)); a != want || !sameState(next, s) {
		t.Fatalf("OsRead of %s from %d to %d of %s\n= %s, %s\nwant %s", key, from, to, brief(s), brief(next), brief(a), brief(want))
	}
}

// What is written (with AnOk) is read: a shard held against the list of what was put.
func TestWritesAreRead(t *testing.T) {
	r := rand.New(rand.NewPCG(12, 3))
	codes := map[int]int{}
	for range 40 {
		s, m := shardState(impl.Engine{}), putList{}
		for range 60 {
			o := someShardOp(r, m.floor)
			next, a := impl.StateDo(s, o)
			if o.Kind == impl.OsWrite && a.Code == impl.AnOk {
				points, _ := slowReadBlock(o.Data)
				m = m.with(o.Key, points)
			}
			if o.Kind == impl.OsRaise && a.Code == impl.AnOk {
				m.floor = max(m.floor, o.From)
			}
			if a.Code != impl.AnOk && !sameState(s, next) || !impl.StateOk(next) || o.Kind >= impl.OsWrite && a.Code != impl.AnBad && a.Mark != m.floor {
				t.Fatalf("StateDo of %s\nby %s\n= %s, %s", brief(s), brief(o), brief(next), brief(a))
			}
			codes[a.Code]++
			s = next
			for _, key := range []string{"a", "b", "zzzzzzzz"} {
				from := max(0, m.floor+r.IntN(80)-20)
				wantReadFrom(t, s, m, key, from, from+1+r.IntN(100))
				wantReadFrom(t, s, m, key, 0, farTime)
			}
		}
	}
	if codes[impl.AnOk] < 1000 || codes[impl.AnBad] < 50 || codes[impl.AnLate] < 50 || codes[impl.AnFull] < 50 || codes[impl.AnNone] < 20 {
		t.Errorf("codes %v", codes)
	}
}

// A client's serials, one behind the other, are each done once, whatever is served between them.
func TestServeByChance(t *testing.T) {
	r := rand.New(rand.NewPCG(12, 4))
	done, again, nothing := 0, 0, 0
	for walk := range 60 {
		s, _ := impl.NewState(1 + walk%2)
		plain := copyState(s)
		var last [5]impl.Session
		for index := 1; index <= 60; index++ {
			o := someMetaOp(r, s)
			if s.Kind == impl.KdShard {
				o = someShardOp(r, s.Engine.Floor)
			}
			client := pick(r, 1, 2, 3, 4, 1+r.IntN(4), r.IntN(7)-1)
			serial := slowSession(s, client).Serial + pick(r, 1, 1, 1, 0, -1, 2, r.IntN(5))
			next, a, did := wantServeWords(t, "by chance", s, served{client, serial, o, index})
			switch {
			case did:
				done++
				var b impl.Answer
				plain, b = impl.StateDo(plain, o)
				b.Index = index
				if a != b || serial != last[client].Serial+1 {
					t.Fatalf("Serve of serial %d answers %s, StateDo %s", serial, brief(a), brief(b))
				}
				last[client] = impl.Session{Client: client, Serial: serial, Answer: a}
			case a != (impl.Answer{}):
				again++
				if a != last[client].Answer || serial != last[client].Serial {
					t.Fatalf("serial %d again answers %s, was told %s", serial, brief(a), brief(last[client]))
				}
			default:
				nothing++
			}
			// But for the Sessions the state is what those ops that were done come to, each once.
			if !sameState(withSessions(next), plain) {
				t.Fatalf("%s is not %s", brief(next), brief(plain))
			}
			s = next
		}
		for client := 1; client <= 4; client++ {
			if slowSession(s, client) != last[client] {
				t.Fatalf("client %d has %s, was told %s", client, brief(slowSession(s, client)), brief(last[client]))
			}
		}
	}
	if done < 1000 || again < 300 || nothing < 300 {
		t.Errorf("%d done, %d told again, %d nothing", done, again, nothing)
	}
}

// someState is a state that ops by chance lead to, and then, mostly, one part of it changed: right or not.
func someState(r *rand.Rand) impl.State {
	s, _ := impl.NewState(1 + r.IntN(2))
	for index := range 1 + r.IntN(12) {
		o := someMetaOp(r, s)
		if s.Kind == impl.KdShard {
			o = someShardOp(r, s.Engine.Floor)
		}
		client := 1 + r.IntN(4)
		s, _, _ = impl.Serve(s, client, slowSession(s, client).Serial+1, o, index+1)
	}
	for range r.IntN(3) {
		turnState(r, &s)
	}
	return s
}

func turnState(r *rand.Rand, s *impl.State) {
	switch r.IntN(10) {
	case 0:
		s.Kind = pick(r, 0, 1, 2, 3)
	case 1:
		s.Hold += pick(r, -1, 1, 100, 100000)
	case 2:
		s.Mark += pick(r, -1, 1, 100, -100, farTime)
	case 3:
		s.Buckets = append(s.Buckets, inTurn(pick(r, 0, s.Mark/100, s.Mark/100+30, farBucket-3), 1+r.IntN(6))...)
	case 4:
		for i := range s.Buckets {
			s.Buckets[i].Number += pick(r, 0, 0, 0, 1, -1)
		}
	case 5:
		if len(s.Buckets) > 0 {
			s.Buckets[r.IntN(len(s.Buckets))].Shard += pick(r, -1, 1)
		}
	case 6:
		turnEngine(r, &s.Engine)
	case 7:
		s.Sessions = append(s.Sessions, sessionAt(pick(r, 0, 1, 2, 3, 4, 5), pick(r, 0, 1, 5, 1000000, 1000001)))
	case 8:
		if len(s.Sessions) > 0 {
			s.Sessions[r.IntN(len(s.Sessions))].Answer = pick(r, append(wrongAnswers(), impl.Answer{Code: 3, Index: 9, Mark: 5, Data: "x"})...)
		}
	case 9:
		for i := range s.Sessions {
			s.Sessions[i].Client += pick(r, 0, 0, 1, -1)
			s.Sessions[i].Serial += pick(r, 0, 0, 1, -1, 999990)
		}
	}
}

func TestStatesAgainstTheWords(t *testing.T) {
	r := rand.New(rand.NewPCG(12, 5))
	right, not := 0, 0
	for range 2500 {
		s := someState(r)
		ok := slowStateOk(s)
		if got := impl.StateOk(s); got != ok {
			t.Fatalf("StateOk(%s) = %v", brief(s), got)
		}
		if ok {
			right++
		} else {
			not++
		}
		for _, o := range []impl.Op{someMetaOp(r, s), someMetaOp(r, s), someShardOp(r, s.Engine.Floor), pick(r, wrongOps()...)} {
			wantDoWords(t, "by chance", s, o)
			client := r.IntN(6)
			wantServeWords(t, "by chance", s, served{client, slowSession(s, client).Serial + pick(r, 0, 1, 1, 2), o, pick(r, 0, 1, 50, 100000, 100001)})
		}
	}
	if right < 700 || not < 700 {
		t.Errorf("%d right, %d not", right, not)
	}
}

// spareState is the state with room behind each list, what stands there, and texts of its own.
func spareState(s impl.State) impl.State {
	var sessions []impl.Session
	for _, last := range s.Sessions {
		last.Answer.Data = strings.Clone(last.Answer.Data)
		sessions = append(sessions, last)
	}
	s.Buckets = append(slices.Clone(s.Buckets), dealt(77, 7, 78, 8)...)[:len(s.Buckets)]
	s.Engine = spareEngine(s.Engine)
	s.Sessions = append(sessions, sessionAt(77, 7), sessionAt(78, 8))[:len(sessions)]
	return s
}

// sameStateWithRoom asks whether the state, and what stands behind its lists, are as spareState made them.
func sameStateWithRoom(a, b impl.State) bool {
	return a.Kind == b.Kind && a.Hold == b.Hold && a.Mark == b.Mark && sameEngineWithRoom(a.Engine, b.Engine) &&
		slices.Equal(a.Buckets[:len(a.Buckets)+2], b.Buckets[:len(b.Buckets)+2]) && slices.Equal(a.Sessions[:len(a.Sessions)+2], b.Sessions[:len(b.Sessions)+2])
}

func spoilState(s impl.State) {
	spoilEngine(s.Engine)
	buckets, sessions := s.Buckets[:cap(s.Buckets)], s.Sessions[:cap(s.Sessions)]
	for i := range buckets {
		buckets[i] = impl.Bucket{Number: -99}
	}
	for i := range sessions {
		sessions[i] = impl.Session{Client: -99}
	}
}

// textsInState are the keys, files and told Data of a state.
func textsInState(s impl.State) []string {
	l := textsIn(s.Engine)
	for _, last := range s.Sessions {
		l = append(l, last.Answer.Data)
	}
	return l
}

func memoryStates() []impl.State {
	bad, wrong := richMeta(), richShard()
	bad.Mark, wrong.Engine.Floor = -1, 21
	return []impl.State{{}, metaState(0, 0), shardState(impl.Engine{}), richMeta(), fullMeta(), richShard(), fullShard(), withSessions(metaState(5, 150, dealt(1, 1, 5, 0)...), sessionAt(1, 1)), bad, wrong}
}

func TestStateDoAnswersNewMemory(t *testing.T) {
	for _, x := range memoryStates() {
		for _, o := range slices.Concat(metaOps(), shardOps(), []impl.Op{{}, writeOp("a", pointsAt(30, 9)), writeOp("new", pointsAt(130, 9)), writeOp("A", pointsAt(30, 9)), markOp(180), routeOp(100, 600)}) {
			o.Key, o.Data = strings.Clone(o.Key), strings.Clone(o.Data)
			s := spareState(x)
			first, a := impl.StateDo(s, o)
			kept := copyState(first)
			second, b := impl.StateDo(s, o)
			wantNewTexts(t, "StateDo", append(textsInState(first), a.Data), slices.Concat(textsInState(s), textsInState(second), []string{b.Data, o.Key, o.Data}))
			spoilState(second)
			if !sameStateWithRoom(s, spareState(x)) {
				t.Fatalf("StateDo of %s\nby %s\nwrote into its argument, or its answer is part of it: %s", brief(x), brief(o), brief(s))
			}
			spoilState(s)
			if !sameState(first, kept) {
				t.Fatalf("StateDo of %s\nby %s: the answer hangs on its argument, or on another answer: %s", brief(x), brief(o), brief(first))
			}
		}
	}
}

func TestServeAnswersNewMemory(t *testing.T) {
	for _, x := range memoryStates() {
		for _, o := range []impl.Op{{}, routeOp(100, 600), routeOp(2000, 2100), markOp(180), holdOp(9), writeOp("a", pointsAt(130, 9)), writeOp("a", pointsAt(3, 9)), readOp("a", 0, farTime), raiseOp(130), flushOp()} {
			for client := range 6 {
				last := slowSession(x, client).Serial
				for serial := last - 1; serial <= last+2; serial++ {
					o.Key, o.Data = strings.Clone(o.Key), strings.Clone(o.Data)
					s := spareState(x)
					c := served{client, serial, o, 9}
					first, a, _ := c.do(s)
					kept := copyState(first)
					second, b, _ := c.do(s)
					wantNewTexts(t, "Serve", append(textsInState(first), a.Data), slices.Concat(textsInState(s), textsInState(second), []string{b.Data, o.Key, o.Data}))
					wantNewTexts(t, "Serve", textsInState(first), []string{a.Data})
					spoilState(second)
					if !sameStateWithRoom(s, spareState(x)) {
						t.Fatalf("Serve of %s\nby %s\nwrote into its argument, or its answer is part of it: %s", brief(x), brief(c), brief(s))
					}
					spoilState(s)
					if !sameState(first, kept) {
						t.Fatalf("Serve of %s\nby %s: the answer hangs on its argument, or on another answer: %s", brief(x), brief(c), brief(first))
					}
				}
			}
		}
	}
}

func TestStateAsksAnswerNewMemory(t *testing.T) {
	for _, x := range memoryStates() {
		s := spareState(x)
		impl.StateOk(s)
		if !sameStateWithRoom(s, spareState(x)) {
			t.Fatalf("StateOk wrote into its argument: %s", brief(s))
		}
	}
	data := toldRoute(inTurn(127, 8))
	first, _ := impl.Routes(data)
	second, _ := impl.Routes(data)
	for i := range second[:cap(second)] {
		second[:cap(second)][i] = impl.Bucket{Number: -99}
	}
	if !slices.Equal(first, inTurn(127, 8)) {
		t.Errorf("Routes: an answer hangs on another one: %v", first)
	}
	one, _ := impl.NewState(impl.KdMeta)
	one, _ = impl.StateDo(one, routeOp(0, 800))
	if two, _ := impl.NewState(impl.KdMeta); !sameState(two, impl.State{Kind: impl.KdMeta}) || len(one.Buckets) != 8 {
		t.Errorf("NewState answers %s", brief(two))
	}
}

func TestStateAnswersAtEveryArgument(t *testing.T) {
	long := strings.Repeat("a", 1000000)
	for _, s := range []impl.State{
		metaState(math.MinInt, math.MaxInt, inTurn(math.MinInt, 3)...), metaState(math.MaxInt, math.MinInt, inTurn(math.MaxInt-3, 3)...), metaState(0, 0, make([]impl.Bucket, 100000)...),
		shardState(impl.Engine{Floor: math.MaxInt, Files: []string{long}}), shardState(impl.Engine{Cache: make([]impl.Series, 100000)}), withSessions(metaState(0, 0), make([]impl.Session, 100000)...),
		withSessions(metaState(0, 0), impl.Session{Client: 1, Serial: 1, Answer: impl.Answer{Data: long}}),
	} {
		for _, o := range []impl.Op{routeOp(math.MinInt, math.MaxInt), markOp(math.MinInt), holdOp(math.MaxInt), {Kind: impl.OsWrite, Key: long, Data: long}, readOp(long, math.MinInt, math.MaxInt), raiseOp(math.MaxInt), flushOp()} {
			wantDo(t, "far too much", s, o, impl.State{}, impl.Answer{Code: impl.AnBad})
			wantServe(t, "far too much", s, served{math.MinInt, math.MaxInt, o, math.MinInt}, impl.State{}, impl.Answer{}, false)
			for _, right := range []impl.State{richMeta(), richShard()} {
				if o != flushOp() {
					wantSame(t, "far too much", right, o, impl.Answer{Code: impl.AnBad})
				}
			}
		}
	}
	wantRoutes(t, "far too much", long, nil, false)
}
