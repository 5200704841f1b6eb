package tests

import (
	"fmt"
	"math"
	"math/rand/v2"
	"slices"
	"strings"
	"testing"

	"loop.example/g00360/impl"
)

// Promise 20: a right router stays right; a call that is begun is replied once, with its legs as they were told; a read has just the points of its legs.

// The slow functions do the document's words step by step, to be held against the program.

func slowCallOk(c impl.Call) bool {
	noKey, noFrom, noTo, noData := c.Key == "", c.From == 0, c.To == 0, c.Data == ""
	switch c.Kind {
	case 1:
		_, ok := slowReadBlock(c.Data)
		return slowKey(c.Key) && ok && noFrom && noTo
	case 2:
		return slowKey(c.Key) && c.From >= 0 && c.From < c.To && c.To <= farTime && noData
	case 3:
		return within(c.From, 0, farTime) && noKey && noTo && noData
	case 4:
		return within(c.From, 0, 100000) && noKey && noTo && noData
	}
	return false
}

func slowRouterOk(r impl.Router) bool {
	if !within(r.Id, 1, 4) || len(r.Serials) != 3 || !within(r.Begun, 0, 1000000) {
		return false
	}
	for _, serial := range r.Serials {
		if !within(serial, 0, 1000000) {
			return false
		}
	}
	if !r.Busy {
		return r.Call.Kind == 0 && r.Call.Key == "" && r.Call.From == 0 && r.Call.To == 0 && r.Call.Data == "" && r.Begun == 0 && len(r.Legs) == 0 && len(r.Todo) == 0
	}
	if !slowCallOk(r.Call) || len(r.Todo) == 0 || len(r.Todo)+len(r.Legs) > 3 {
		return false
	}
	if len(r.Legs) == 0 && (len(r.Todo) != 1 || r.Todo[0].Group != 0) {
		return false
	}
	for _, t := range r.Todo {
		if len(r.Legs) > 0 && !within(t.Group, 1, 2) || !slowOpOk(t.Op) {
			return false
		}
	}
	for _, l := range r.Legs {
		if !within(l.Group, 0, 2) || !within(l.Serial, 1, 1000000) || !slowOpOk(l.Op) || !slowAnswerOk(l.Answer) {
			return false
		}
	}
	return r.Serials[r.Todo[0].Group] > 0
}

// slowBegun is the router with one more at the group of the first of Todo.
func slowBegun(r impl.Router) impl.Router {
	r.Serials = slices.Clone(r.Serials)
	r.Serials[r.Todo[0].Group]++
	return r
}

func slowFirst(c impl.Call) impl.Op {
	switch c.Kind {
	case 1:
		points, _ := slowReadBlock(c.Data)
		from, to := points[0].T, points[len(points)-1].T+1
		if to > farTime {
			to = farTime
		}
		if from == to {
			from--
		}
		return routeOp(from, to)
	case 2:
		return routeOp(c.From, c.To)
	case 3:
		return markOp(c.From)
	}
	return holdOp(c.From)
}

func slowRouterCall(r impl.Router, c impl.Call, now int) (impl.Router, bool) {
	full := false
	for _, serial := range r.Serials {
		full = full || serial == 1000000
	}
	if r.Busy || !slowCallOk(c) || full || !within(now, 0, 1000000) {
		return r, false
	}
	if !slowRouterOk(r) {
		return impl.Router{}, false
	}
	return slowBegun(impl.Router{Id: r.Id, Serials: r.Serials, Busy: true, Call: c, Begun: now, Todo: []impl.Todo{{Op: slowFirst(c)}}}), true
}

func slowRouterSay(r impl.Router, to int) (int, impl.Msg, bool) {
	if !slowRouterOk(r) || !r.Busy || !within(to, 0, 4) {
		return 0, impl.Msg{}, false
	}
	group := r.Todo[0].Group
	return group, callMsg(10+r.Id, to, r.Serials[group], opTexts().raw(r.Todo[0].Op)), true
}

// slowLegsPoints are by their times, those of a later leg over those of one ahead of it.
func slowLegsPoints(legs []impl.Leg) []impl.Point {
	at := map[int]int{}
	for _, l := range legs[1:] {
		points, _ := slowReadBlock(l.Answer.Data)
		for _, p := range points {
			at[p.T] = p.V
		}
	}
	return byTime(at, 0)
}

func slowReplied(r impl.Router, code, now int) heard {
	reply := impl.Reply{Router: r.Id, Call: r.Call, Code: code, Legs: r.Legs, Begun: r.Begun, Ended: now}
	if code == 0 && r.Call.Kind == 2 {
		reply.Points = slowLegsPoints(r.Legs)
	}
	return heard{impl.Router{Id: r.Id, Serials: r.Serials}, reply, true}
}

// slowCut is what comes behind Todo when group 0 has answered, and the code that is replied, 0 for none.
func slowCut(c impl.Call, a impl.Answer) ([]impl.Todo, int) {
	var todo []impl.Todo
	routes, ok := slowRoutes(a.Data)
	switch c.Kind {
	case 1:
		points, _ := slowReadBlock(c.Data)
		for _, p := range points {
			if p.T < a.Mark {
				return nil, 2
			}
		}
		var of [2][]impl.Point
		for _, p := range points {
			shard := slowShardOf(routes, p.T/100)
			if !ok || shard < 0 {
				return nil, 4
			}
			of[shard] = append(of[shard], p)
		}
		for shard, l := range of {
			if len(l) > 0 {
				todo = append(todo, impl.Todo{Group: 1 + shard, Op: writeOp(c.Key, l)})
			}
		}
	case 2:
		if !ok {
			return nil, 4
		}
		for shard := range 2 {
			if slowManyAt(routes, shard) > 0 {
				todo = append(todo, impl.Todo{Group: 1 + shard, Op: readOp(c.Key, c.From, c.To)})
			}
		}
	case 3:
		todo = []impl.Todo{{Group: 1, Op: raiseOp(a.Mark)}, {Group: 2, Op: raiseOp(a.Mark)}}
	}
	return todo, 0
}

func slowRouterHear(r impl.Router, group int, m impl.Msg, now int) heard {
	if !slowRouterOk(r) {
		return heard{}
	}
	if !r.Busy || group != r.Todo[0].Group || !slowMsgOk(m) || m.Kind != 7 || m.To != 10+r.Id || m.Index != r.Serials[group] || !within(now, 0, 1000000) {
		return heard{r: r}
	}
	a, _ := slowReadAnswer(m.Data)
	r = copyRouter(r)
	r.Legs, r.Todo = append(r.Legs, impl.Leg{Group: group, Serial: m.Index, Op: r.Todo[0].Op, Answer: a}), r.Todo[1:]
	if a.Code != 0 {
		return slowReplied(r, a.Code, now)
	}
	if group == 0 {
		todo, code := slowCut(r.Call, a)
		if code != 0 {
			return slowReplied(r, code, now)
		}
		r.Todo = append(r.Todo, todo...)
	}
	if len(r.Todo) == 0 {
		return slowReplied(r, 0, now)
	}
	if r.Serials[r.Todo[0].Group] == 1000000 {
		return slowReplied(r, 3, now)
	}
	return heard{r: slowBegun(r)}
}

// A heard is what RouterHear answers.
type heard struct {
	r    impl.Router
	y    impl.Reply
	done bool
}

func hears(r impl.Router, group int, m impl.Msg, now int) heard {
	next, y, done := impl.RouterHear(r, group, m, now)
	return heard{next, y, done}
}

func copyRouter(r impl.Router) impl.Router {
	r.Serials, r.Legs, r.Todo = slices.Clone(r.Serials), slices.Clone(r.Legs), slices.Clone(r.Todo)
	return r
}

func sameRouter(a, b impl.Router) bool {
	return a.Id == b.Id && slices.Equal(a.Serials, b.Serials) && a.Busy == b.Busy && a.Call == b.Call && a.Begun == b.Begun && slices.Equal(a.Legs, b.Legs) && slices.Equal(a.Todo, b.Todo)
}

func sameReply(a, b impl.Reply) bool {
	return a.Router == b.Router && a.Call == b.Call && a.Code == b.Code && slices.Equal(a.Points, b.Points) && slices.Equal(a.Legs, b.Legs) && a.Begun == b.Begun && a.Ended == b.Ended
}

func sameHeard(a, b heard) bool {
	return sameRouter(a.r, b.r) && sameReply(a.y, b.y) && a.done == b.done
}

func (h heard) String() string {
	return fmt.Sprintf("%s\n\treply %s, %v", brief(h.r), brief(h.y), h.done)
}

// routerWith is the router with a change.
func routerWith(r impl.Router, change func(r *impl.Router)) impl.Router {
	r = copyRouter(r)
	change(&r)
	return r
}

// wantCalled wants RouterCall to answer this, as the words say, too; it must write into nothing, and a right router stay right.
func wantCalled(t *testing.T, name string, r impl.Router, c impl.Call, now int, want impl.Router, wantOk bool) impl.Router {
	t.Helper()
	ahead := copyRouter(r)
	got, ok := impl.RouterCall(r, c, now)
	if !sameRouter(got, want) || ok != wantOk {
		t.Fatalf("%s: RouterCall of %s\nby %s at %d\n= %s, %v\nwant %s, %v", name, brief(ahead), brief(c), now, brief(got), ok, brief(want), wantOk)
	}
	if said, saidOk := slowRouterCall(r, c, now); !sameRouter(said, want) || saidOk != wantOk {
		t.Fatalf("%s: RouterCall of %s\nby %s at %d\nby the words = %s, %v\nwant %s, %v", name, brief(ahead), brief(c), now, brief(said), saidOk, brief(want), wantOk)
	}
	if !sameRouter(r, ahead) {
		t.Fatalf("%s: RouterCall made %s\nof %s", name, brief(r), brief(ahead))
	}
	if slowRouterOk(r) && (!impl.RouterOk(got) || ok != got.Busy && !r.Busy) {
		t.Fatalf("%s: RouterCall of %s\nby %s at %d\n= %s, %v: not right", name, brief(ahead), brief(c), now, brief(got), ok)
	}
	return got
}

// wantCallRefused wants the router as it is.
func wantCallRefused(t *testing.T, name string, r impl.Router, c impl.Call, now int) {
	t.Helper()
	wantCalled(t, name, r, c, now, r, false)
}

func wantCalledWords(t *testing.T, name string, r impl.Router, c impl.Call, now int) (impl.Router, bool) {
	t.Helper()
	want, ok := slowRouterCall(r, c, now)
	return wantCalled(t, name, r, c, now, want, ok), ok
}

// wantSaid wants RouterSay to answer this, as the words say, too; what it says must be MsgOk.
func wantSaid(t *testing.T, name string, r impl.Router, to, wantGroup int, want impl.Msg, wantOk bool) {
	t.Helper()
	ahead := copyRouter(r)
	group, m, ok := impl.RouterSay(r, to)
	if group != wantGroup || !sameMsg(m, want) || ok != wantOk {
		t.Fatalf("%s: RouterSay of %s\nto %d = %d, %s, %v\nwant %d, %s, %v", name, brief(ahead), to, group, brief(m), ok, wantGroup, brief(want), wantOk)
	}
	if said, saidMsg, saidOk := slowRouterSay(r, to); said != wantGroup || !sameMsg(saidMsg, want) || saidOk != wantOk {
		t.Fatalf("%s: RouterSay of %s\nto %d by the words = %d, %s, %v\nwant %d, %s, %v", name, brief(ahead), to, said, brief(saidMsg), saidOk, wantGroup, brief(want), wantOk)
	}
	if ok && !impl.MsgOk(m) {
		t.Fatalf("%s: RouterSay of %s\nto %d says %s, which is not MsgOk", name, brief(ahead), to, brief(m))
	}
	if !sameRouter(r, ahead) {
		t.Fatalf("%s: RouterSay made %s\nof %s", name, brief(r), brief(ahead))
	}
}

func wantSaidWords(t *testing.T, name string, r impl.Router, to int) {
	t.Helper()
	group, m, ok := slowRouterSay(r, to)
	wantSaid(t, name, r, to, group, m, ok)
}

// wantRouterPromise wants a right router to be right then, and its call to go on or to be replied with all its legs.
func wantRouterPromise(t *testing.T, name string, r impl.Router, m impl.Msg, now int, got heard) {
	t.Helper()
	if !impl.RouterOk(got.r) {
		t.Fatalf("%s: %s\nhears %s\nand is not right then: %s", name, brief(r), brief(m), got)
	}
	if !got.done {
		if got.r.Busy != r.Busy || got.r.Call != r.Call || got.r.Begun != r.Begun || !sameReply(got.y, impl.Reply{}) {
			t.Fatalf("%s: %s\nhears %s\nand another call is under way, or one is replied: %s", name, brief(r), brief(m), got)
		}
		return
	}
	a, _ := impl.ReadAnswer(m.Data)
	legs := append(slices.Clone(r.Legs), impl.Leg{Group: r.Todo[0].Group, Serial: m.Index, Op: r.Todo[0].Op, Answer: a})
	if got.r.Busy || got.y.Router != r.Id || got.y.Call != r.Call || got.y.Begun != r.Begun || got.y.Ended != now || !slices.Equal(got.y.Legs, legs) {
		t.Fatalf("%s: %s\nhears %s\nand replies what it was not asked for, or not told: %s", name, brief(r), brief(m), got)
	}
	if !within(got.y.Code, 0, 4) || len(got.y.Points) > 0 && (got.y.Code != impl.AnOk || got.y.Call.Kind != impl.ClRead) {
		t.Fatalf("%s: %s\nhears %s\nand replies no such code, or points that it has none of: %s", name, brief(r), brief(m), got)
	}
}

// wantHeard wants RouterHear to answer this, as the words say, too; it must write into nothing, and keep the promise.
func wantHeard(t *testing.T, name string, r impl.Router, group int, m impl.Msg, now int, want heard) heard {
	t.Helper()
	ahead := copyRouter(r)
	got := hears(r, group, m, now)
	if !sameHeard(got, want) {
		t.Fatalf("%s: %s\nhears of %d %s at %d\n= %s\nwant %s", name, brief(ahead), group, brief(m), now, got, want)
	}
	if said := slowRouterHear(r, group, m, now); !sameHeard(said, want) {
		t.Fatalf("%s: %s\nhears of %d %s at %d\nby the words = %s\nwant %s", name, brief(ahead), group, brief(m), now, said, want)
	}
	if !sameRouter(r, ahead) {
		t.Fatalf("%s: hearing %s\nmade %s\nof %s", name, brief(m), brief(r), brief(ahead))
	}
	if slowRouterOk(r) {
		wantRouterPromise(t, name, r, m, now, got)
	}
	return got
}

func wantHeardWords(t *testing.T, name string, r impl.Router, group int, m impl.Msg, now int) heard {
	t.Helper()
	return wantHeard(t, name, r, group, m, now, slowRouterHear(r, group, m, now))
}

// wantUnheard wants the router as it is.
func wantUnheard(t *testing.T, name string, r impl.Router, group int, m impl.Msg, now int) {
	t.Helper()
	wantHeard(t, name, r, group, m, now, heard{r: r})
}

func writeCall(key string, l []impl.Point) impl.Call {
	return impl.Call{Kind: impl.ClWrite, Key: key, Data: slowShowBlock(l)}
}

func readCall(key string, from, to int) impl.Call {
	return impl.Call{Kind: impl.ClRead, Key: key, From: from, To: to}
}

func trimCall(n int) impl.Call {
	return impl.Call{Kind: impl.ClTrim, From: n}
}

func holdCall(n int) impl.Call {
	return impl.Call{Kind: impl.ClHold, From: n}
}

// answerMsg tells the router what its first of Todo waits for.
func answerMsg(r impl.Router, a impl.Answer) impl.Msg {
	return toldMsg(1, 10+r.Id, r.Serials[r.Todo[0].Group], answerTexts().raw(a))
}

// answered is what the router comes to by this answer, at 60.
func answered(t *testing.T, name string, r impl.Router, a impl.Answer) heard {
	t.Helper()
	return wantHeardWords(t, name, r, r.Todo[0].Group, answerMsg(r, a), 60)
}

// leg and todo are for answers written out by hand.

func leg(group, serial int, o impl.Op, a impl.Answer) impl.Leg {
	return impl.Leg{Group: group, Serial: serial, Op: o, Answer: a}
}

func todo(group int, o impl.Op) impl.Todo {
	return impl.Todo{Group: group, Op: o}
}

// restingRouter is not Busy.
func restingRouter() impl.Router {
	return impl.Router{Id: 2, Serials: []int{3, 5, 7}}
}

// busyRouter has a call that was begun at 40.
func busyRouter(c impl.Call, serials []int, legs []impl.Leg, todo ...impl.Todo) impl.Router {
	return impl.Router{Id: 2, Serials: serials, Busy: true, Call: c, Begun: 40, Legs: legs, Todo: todo}
}

// fourPoints are in the buckets 0, 1 and 3.
func fourPoints() []impl.Point {
	return pointsAt(10, 1, 120, 2, 130, -3, 399, 4)
}

func fourWrite() impl.Call {
	return writeCall("cpu", fourPoints())
}

// fourRoute is where they go: the first two buckets to shard 1, the last one to shard 0.
func fourRoute() impl.Answer {
	return impl.Answer{Index: 8, Mark: 10, Data: toldRoute(dealt(0, 1, 1, 1, 2, 0, 3, 0))}
}

func fourRouted() impl.Leg {
	return leg(0, 4, routeOp(10, 400), fourRoute())
}

func fourTodo() []impl.Todo {
	return []impl.Todo{todo(1, writeOp("cpu", pointsAt(399, 4))), todo(2, writeOp("cpu", pointsAt(10, 1, 120, 2, 130, -3)))}
}

func fourRead() impl.Call {
	return readCall("cpu", 10, 400)
}

// busyRouters wait for group 0, for a shard with another one behind it, and for the last one, of each kind of call.
func busyRouters() []impl.Router {
	first := []int{4, 5, 7}
	second := []int{4, 6, 7}
	third := []int{4, 6, 8}
	read := []impl.Todo{todo(1, readOp("cpu", 10, 400)), todo(2, readOp("cpu", 10, 400))}
	raise := []impl.Todo{todo(1, raiseOp(90)), todo(2, raiseOp(90))}
	marked := leg(0, 4, markOp(100), impl.Answer{Index: 9, Mark: 90})
	done := impl.Answer{Index: 3, Mark: 10}
	had := impl.Answer{Index: 3, Mark: 10, Data: slowShowBlock(pointsAt(20, 2, 399, 4))}
	return []impl.Router{
		busyRouter(fourWrite(), first, nil, todo(0, routeOp(10, 400))),
		busyRouter(fourWrite(), second, []impl.Leg{fourRouted()}, fourTodo()...),
		busyRouter(fourWrite(), third, []impl.Leg{fourRouted(), leg(1, 6, fourTodo()[0].Op, done)}, fourTodo()[1]),
		busyRouter(fourRead(), first, nil, todo(0, routeOp(10, 400))),
		busyRouter(fourRead(), second, []impl.Leg{fourRouted()}, read...),
		busyRouter(fourRead(), third, []impl.Leg{fourRouted(), leg(1, 6, read[0].Op, had)}, read[1]),
		busyRouter(trimCall(100), first, nil, todo(0, markOp(100))),
		busyRouter(trimCall(100), second, []impl.Leg{marked}, raise...),
		busyRouter(trimCall(100), third, []impl.Leg{marked, leg(1, 6, raise[0].Op, done)}, raise[1]),
		busyRouter(holdCall(70), first, nil, todo(0, holdOp(70))),
	}
}

// strangeRouters are right, though no call and no answer leads to them.
func strangeRouters() []impl.Router {
	block := impl.Answer{Code: 2, Index: 3, Data: slowShowBlock(pointsAt(1, 1, 50, 5))}
	late := impl.Answer{Code: 4, Index: 3, Data: slowShowBlock(pointsAt(50, 6, 60, 6))}
	return []impl.Router{
		busyRouter(fourWrite(), []int{1, 0, 0}, nil, todo(0, flushOp())),
		busyRouter(holdCall(5), []int{0, 1, 0}, []impl.Leg{leg(2, 9, markOp(4), block)}, todo(1, routeOp(0, 9)), todo(1, writeOp("z", pointsAt(5, 5)))),
		busyRouter(fourRead(), []int{0, 0, 1}, []impl.Leg{leg(1, 9, holdOp(4), block), leg(1, 9, holdOp(4), late)}, todo(2, flushOp())),
		busyRouter(trimCall(0), []int{0, 1000000, 1000000}, []impl.Leg{leg(0, 1000000, raiseOp(4), late)}, todo(2, flushOp()), todo(1, holdOp(9))),
		busyRouter(fourRead(), []int{1000000, 1000000, 1000000}, []impl.Leg{leg(2, 1, flushOp(), impl.Answer{Data: "no block"})}, todo(1, readOp("other", 0, 3)), todo(1, readOp("more", 0, 3))),
	}
}

func restingRouters() []impl.Router {
	return []impl.Router{restingRouter(), {Id: 1, Serials: []int{0, 0, 0}}, {Id: 4, Serials: []int{1000000, 1000000, 1000000}}, {Id: 3, Serials: []int{999999, 0, 1000000}, Legs: []impl.Leg{}, Todo: []impl.Todo{}}}
}

func rightRouters() []impl.Router {
	return slices.Concat(restingRouters(), busyRouters(), strangeRouters())
}

func someCalls() []impl.Call {
	return []impl.Call{fourWrite(), writeCall("a", pointsAt(farTime, 5)), fourRead(), readCall("zzzzzzzz", 0, farTime), trimCall(0), trimCall(farTime), holdCall(0), holdCall(100000)}
}

// wrongCalls are not CallOk.
func wrongCalls() []impl.Call {
	return []impl.Call{{}, {Kind: 5}, {Kind: -1, From: 5}, {Kind: math.MaxInt}, writeCall("", fourPoints()), writeCall("cpu", nil), readCall("cpu", 5, 5), readCall("CPU", 5, 9), trimCall(-1), trimCall(farTime + 1), holdCall(100001), {Kind: impl.ClHold, Data: "d"}}
}

func TestRouterConstants(t *testing.T) {
	if got, want := []int{impl.MaxNow, impl.ClWrite, impl.ClRead, impl.ClTrim, impl.ClHold}, []int{1000000, 1, 2, 3, 4}; !slices.Equal(got, want) {
		t.Errorf("%v, want %v", got, want)
	}
}

// wantCallOk wants a call to be CallOk or not, and a router to take it up only then.
func wantCallOk(t *testing.T, name string, c impl.Call, right bool) {
	t.Helper()
	if said := slowCallOk(c); said != right {
		t.Fatalf("%s: is %s CallOk? The words say %v", name, brief(c), said)
	}
	if impl.CallOk(c) != right {
		t.Fatalf("%s: CallOk of %s is %v", name, brief(c), !right)
	}
	if _, ok := wantCalledWords(t, name, restingRouter(), c, 40); ok != right {
		t.Fatalf("%s: RouterCall of %s says %v", name, brief(c), ok)
	}
}

// asCall is a call with the fields of an op.
func asCall(kind int, o impl.Op) impl.Call {
	return impl.Call{Kind: kind, Key: o.Key, From: o.From, To: o.To, Data: o.Data}
}

// The bounds of calls are those of ops.
func TestCallsAtTheEdges(t *testing.T) {
	for kind, cases := range map[int][]opCase{
		impl.ClWrite: append(writeCases(), keyCases(writeOp("", pointsAt(5, 1)))...),
		impl.ClRead:  append(spanCases(0, "cpu"), keyCases(readOp("", 5, 500))...),
		impl.ClTrim:  fromCases(0, farTime),
		impl.ClHold:  fromCases(0, 100000),
	} {
		for _, c := range cases {
			wantCallOk(t, fmt.Sprint("kind ", kind, ", ", c.name), asCall(kind, c.o), c.want)
		}
	}
	for _, c := range someCalls() {
		wantCallOk(t, "right", c, true)
	}
	for _, c := range wrongCalls() {
		wantCallOk(t, "not right", c, false)
	}
}

func TestCallsOfEachKind(t *testing.T) {
	for kind := -2; kind <= 300; kind++ {
		wantCallOk(t, "a kind alone", impl.Call{Kind: kind}, kind == impl.ClTrim || kind == impl.ClHold)
		for _, c := range someCalls() {
			right := c.Kind == kind || c.Kind == impl.ClHold && kind == impl.ClTrim || c == trimCall(0) && kind == impl.ClHold
			c.Kind = kind
			wantCallOk(t, "another kind", c, right)
		}
	}
	for _, kind := range []int{math.MinInt, math.MaxInt, 1 << 32, 1<<32 + 1, 257} {
		wantCallOk(t, "far off", impl.Call{Kind: kind}, false)
	}
}

// A field that the kind does not name has to be zero.
func TestCallsWithAFieldThatTheirKindDoesNotName(t *testing.T) {
	block := slowShowBlock(pointsAt(5, 1))
	for _, c := range []struct {
		c      impl.Call
		fields []impl.Op
	}{
		{fourWrite(), []impl.Op{{From: 1}, {From: -1}, {To: 1}, {To: -1}, {From: 5, To: 6}, {From: 10, To: 400}}},
		{fourRead(), []impl.Op{{Data: "d"}, {Data: block}, {Data: "\x00"}}},
		{trimCall(5), []impl.Op{{Key: "a"}, {Key: "\x00"}, {To: 1}, {To: 6}, {To: -1}, {Data: "d"}, {Data: block}, {Key: "a", Data: block}}},
		{holdCall(5), []impl.Op{{Key: "a"}, {Key: "\x00"}, {To: 1}, {To: 6}, {To: -1}, {Data: "d"}, {Data: block}, {Key: "a", Data: block}}},
	} {
		wantCallOk(t, "as named", c.c, true)
		for _, x := range c.fields {
			o := impl.Op{Key: c.c.Key, From: c.c.From, To: c.c.To, Data: c.c.Data}
			wantCallOk(t, "with another field", asCall(c.c.Kind, withFields(o, x)), false)
		}
	}
}

// All kinds, with all fields at their edges held against each other.
func TestCallsOfAllFields(t *testing.T) {
	right := 0
	numbers := []int{math.MinInt, -1, 0, 1, 100000, 100001, farTime, farTime + 1, math.MaxInt}
	for kind := -1; kind <= 6; kind++ {
		for _, key := range []string{"", "a", "zzzzzzzz", "zzzzzzzzz", "A"} {
			for _, data := range []string{"", "d", oneBlock, rawBlock(0, nil)} {
				for _, from := range numbers {
					for _, to := range numbers {
						c := impl.Call{Kind: kind, Key: key, From: from, To: to, Data: data}
						wantCallOk(t, "all fields", c, slowCallOk(c))
						if slowCallOk(c) {
							right++
						}
					}
				}
			}
		}
	}
	if want := 2 + 2*10 + 5 + 3; right != want {
		t.Errorf("%d are right, want %d", right, want)
	}
}

// wantRouterOk wants a router to be right or not, and each call on it to answer as the words say then.
func wantRouterOk(t *testing.T, name string, r impl.Router, right bool) {
	t.Helper()
	if said := slowRouterOk(r); said != right {
		t.Fatalf("%s: is %s right? The words say %v", name, brief(r), said)
	}
	ahead := copyRouter(r)
	if impl.RouterOk(r) != right {
		t.Fatalf("%s: RouterOk of %s is %v", name, brief(r), !right)
	}
	if !sameRouter(r, ahead) {
		t.Fatalf("%s: RouterOk made %s\nof %s", name, brief(r), brief(ahead))
	}
	if right {
		return
	}
	wantSaid(t, name, r, 1, 0, impl.Msg{}, false)
	for group := -1; group <= 3; group++ {
		for serial := range 9 {
			wantHeard(t, name, r, group, toldMsg(1, 12, serial, toldText), 60, heard{})
		}
	}
	for _, c := range []impl.Call{fourRead(), {}} {
		wantCalledWords(t, name, r, c, 60)
	}
	wantCalledWords(t, name, r, fourRead(), -1)
}

func TestRightRouters(t *testing.T) {
	for _, r := range rightRouters() {
		wantRouterOk(t, "right", r, true)
	}
	wantRouterOk(t, "the zero Router", impl.Router{}, false)
}

// numberCases puts numbers at both edges of a field, one past them, and far beyond.
func numberCases(t *testing.T, name string, r impl.Router, of func(r *impl.Router) *int, least, most int) {
	t.Helper()
	for _, n := range []int{math.MinInt, -1 << 32, least - 2, least - 1, least, least + 1, (least + most) / 2, most - 1, most, most + 1, most + 2, 1 << 32, 1<<32 + least, math.MaxInt} {
		wantRouterOk(t, fmt.Sprint(name, " ", n), routerWith(r, func(r *impl.Router) { *of(r) = n }), within(n, least, most))
	}
}

func TestNumbersOfRouters(t *testing.T) {
	for _, r := range rightRouters() {
		numberCases(t, "Id", r, func(r *impl.Router) *int { return &r.Id }, 1, 4)
		most := 0
		if r.Busy {
			most = 1000000
		}
		numberCases(t, "Begun", r, func(r *impl.Router) *int { return &r.Begun }, 0, most)
		for group := range 3 {
			least := 0
			if r.Busy && r.Todo[0].Group == group {
				least = 1
			}
			numberCases(t, fmt.Sprint("Serial of group ", group), r, func(r *impl.Router) *int { return &r.Serials[group] }, least, 1000000)
		}
		for i := range r.Legs {
			numberCases(t, "Group of a Leg", r, func(r *impl.Router) *int { return &r.Legs[i].Group }, 0, 2)
			numberCases(t, "Serial of a Leg", r, func(r *impl.Router) *int { return &r.Legs[i].Serial }, 1, 1000000)
			numberCases(t, "Code of a Leg", r, func(r *impl.Router) *int { return &r.Legs[i].Answer.Code }, 0, 4)
			numberCases(t, "Index of a Leg", r, func(r *impl.Router) *int { return &r.Legs[i].Answer.Index }, 0, 100000)
			numberCases(t, "Mark of a Leg", r, func(r *impl.Router) *int { return &r.Legs[i].Answer.Mark }, 0, farTime)
		}
		for i := range r.Todo {
			least, most := 1, 2
			if len(r.Legs) == 0 {
				least, most = 0, 0
			}
			x := routerWith(r, func(r *impl.Router) { r.Serials = []int{9, 9, 9} })
			numberCases(t, "Group of Todo", x, func(r *impl.Router) *int { return &r.Todo[i].Group }, least, most)
		}
	}
}

func TestHowManySerials(t *testing.T) {
	for _, r := range rightRouters() {
		for _, many := range []int{0, 1, 2, 3, 4, 5, 1000} {
			x := routerWith(r, func(r *impl.Router) { r.Serials = make([]int, many) })
			for i := range x.Serials {
				x.Serials[i] = 1
			}
			wantRouterOk(t, fmt.Sprint(many, " Serials"), x, many == 3)
		}
		wantRouterOk(t, "one more of them", routerWith(r, func(r *impl.Router) { r.Serials = append(r.Serials, 1) }), false)
		wantRouterOk(t, "one less of them", routerWith(r, func(r *impl.Router) { r.Serials = r.Serials[:2] }), false)
	}
}

// What a router has only while it is Busy is zero while it is not.
func TestRoutersThatAreNotBusy(t *testing.T) {
	for _, r := range restingRouters() {
		wantRouterOk(t, "as it is", r, true)
		wantRouterOk(t, "Busy with nothing", routerWith(r, func(r *impl.Router) { r.Busy = true }), false)
		for _, c := range append(someCalls(), impl.Call{Key: "a"}, impl.Call{From: 1}, impl.Call{To: 1}, impl.Call{Data: "d"}, impl.Call{Kind: 5}, impl.Call{Kind: -1}) {
			wantRouterOk(t, "with a Call", routerWith(r, func(r *impl.Router) { r.Call = c }), false)
		}
		for _, n := range []int{-1, 1, 40, 1000000, 1000001} {
			wantRouterOk(t, "with Begun", routerWith(r, func(r *impl.Router) { r.Begun = n }), false)
		}
		wantRouterOk(t, "with a Leg", routerWith(r, func(r *impl.Router) { r.Legs = []impl.Leg{fourRouted()} }), false)
		wantRouterOk(t, "with a Leg that is zero", routerWith(r, func(r *impl.Router) { r.Legs = []impl.Leg{{}} }), false)
		wantRouterOk(t, "with Todo", routerWith(r, func(r *impl.Router) { r.Todo, r.Serials[0] = []impl.Todo{todo(0, flushOp())}, 1 }), false)
		wantRouterOk(t, "with Todo that is zero", routerWith(r, func(r *impl.Router) { r.Todo = []impl.Todo{{}} }), false)
	}
	for _, r := range append(busyRouters(), strangeRouters()...) {
		wantRouterOk(t, "not Busy, with all else", routerWith(r, func(r *impl.Router) { r.Busy = false }), false)
		wantRouterOk(t, "not Busy, with a Call and Begun", routerWith(r, func(r *impl.Router) { r.Busy, r.Legs, r.Todo = false, nil, nil }), false)
		wantRouterOk(t, "not Busy, with Legs and Todo", routerWith(r, func(r *impl.Router) { r.Busy, r.Call, r.Begun = false, impl.Call{}, 0 }), false)
		wantRouterOk(t, "not Busy", routerWith(r, func(r *impl.Router) {
			r.Busy, r.Call, r.Begun, r.Legs, r.Todo = false, impl.Call{}, 0, nil, nil
		}), true)
	}
}

func TestRoutersThatAreBusy(t *testing.T) {
	for _, r := range append(busyRouters(), strangeRouters()...) {
		for _, c := range someCalls() {
			wantRouterOk(t, "another Call", routerWith(r, func(r *impl.Router) { r.Call = c }), true)
		}
		for _, c := range wrongCalls() {
			wantRouterOk(t, "a Call that is not CallOk", routerWith(r, func(r *impl.Router) { r.Call = c }), false)
		}
		wantRouterOk(t, "Todo empty", routerWith(r, func(r *impl.Router) { r.Todo = nil }), false)
		wantRouterOk(t, "Todo empty and not nil", routerWith(r, func(r *impl.Router) { r.Todo = []impl.Todo{} }), false)
		wantRouterOk(t, "Legs and Todo empty", routerWith(r, func(r *impl.Router) { r.Legs, r.Todo = nil, nil }), false)
		for _, o := range append(metaOps(), shardOps()...) {
			for i := range r.Todo {
				wantRouterOk(t, "another Op in Todo", routerWith(r, func(r *impl.Router) { r.Todo[i].Op = o }), true)
			}
			for i := range r.Legs {
				wantRouterOk(t, "another Op in Legs", routerWith(r, func(r *impl.Router) { r.Legs[i].Op = o }), true)
			}
		}
		for _, o := range wrongOps() {
			for i := range r.Todo {
				wantRouterOk(t, "an Op in Todo that is not OpOk", routerWith(r, func(r *impl.Router) { r.Todo[i].Op = o }), false)
			}
			for i := range r.Legs {
				wantRouterOk(t, "an Op in Legs that is not OpOk", routerWith(r, func(r *impl.Router) { r.Legs[i].Op = o }), false)
			}
		}
		for i := range r.Legs {
			for _, a := range wrongAnswers() {
				wantRouterOk(t, "an Answer that is not AnswerOk", routerWith(r, func(r *impl.Router) { r.Legs[i].Answer = a }), false)
			}
			for _, a := range sampleAnswers() {
				wantRouterOk(t, "another Answer", routerWith(r, func(r *impl.Router) { r.Legs[i].Answer = a }), true)
			}
			for _, many := range []int{0, 899, 900, 901} {
				wantRouterOk(t, "Data of an Answer", routerWith(r, func(r *impl.Router) { r.Legs[i].Answer.Data = strings.Repeat("d", many) }), many <= 900)
			}
		}
	}
}

// How many Legs and Todo are, held against each other, and of which groups Todo are.
func TestHowManyLegsAndTodo(t *testing.T) {
	right := 0
	for legs := range 6 {
		for many := range 6 {
			for group := -1; group <= 4; group++ {
				for last := -1; last <= 4; last++ {
					r := busyRouter(fourRead(), []int{9, 9, 9}, nil)
					for i := range legs {
						r.Legs = append(r.Legs, leg(i%3, 5, flushOp(), impl.Answer{}))
					}
					for range many {
						r.Todo = append(r.Todo, todo(group, flushOp()))
					}
					if many > 0 {
						r.Todo[many-1].Group = last
					}
					wantRouterOk(t, fmt.Sprint(legs, " Legs, ", many, " Todo"), r, slowRouterOk(r))
					if slowRouterOk(r) {
						right++
					}
				}
			}
		}
	}
	// Of one Todo the group is last, whichever group is: six of them.
	if want := 6 + (6*2 + 2*2) + 6*2; right != want {
		t.Errorf("%d are right, want %d", right, want)
	}
	for group := range 3 {
		for serials := range 8 {
			r := busyRouter(fourRead(), []int{serials & 1, serials >> 1 & 1, serials >> 2}, []impl.Leg{fourRouted()}, todo(group, flushOp()), todo(max(3-group, 1), flushOp()))
			if group == 0 {
				r.Legs, r.Todo = nil, r.Todo[:1]
			}
			wantRouterOk(t, "Serials that are 0", r, r.Serials[group] == 1)
		}
	}
}

// routerFaults make each router one that is not right, alone and together.
func routerFaults() []func(r *impl.Router) {
	return []func(r *impl.Router){
		func(r *impl.Router) { r.Id = 0 }, func(r *impl.Router) { r.Id = 5 },
		func(r *impl.Router) { r.Serials = r.Serials[:min(len(r.Serials), 2)] }, func(r *impl.Router) { r.Serials = []int{1, 1, 1, 1} }, func(r *impl.Router) { r.Serials = []int{1, -1, 1} }, func(r *impl.Router) { r.Serials = []int{1, 1, 1000001} },
		func(r *impl.Router) { r.Begun = -1 }, func(r *impl.Router) { r.Begun = 1000001 },
		func(r *impl.Router) { r.Call.Kind = 5 }, func(r *impl.Router) { r.Call = readCall("cpu", 9, 3) },
		func(r *impl.Router) { r.Legs = append(r.Legs, leg(3, 1, flushOp(), impl.Answer{})) }, func(r *impl.Router) { r.Legs = make([]impl.Leg, 3) },
		func(r *impl.Router) { r.Todo = append(r.Todo, impl.Todo{}) }, func(r *impl.Router) { r.Todo = append(r.Todo, todo(3, flushOp())) },
	}
}

func TestRoutersWithSeveralFaults(t *testing.T) {
	for _, r := range rightRouters() {
		for i, fault := range routerFaults() {
			for j, other := range routerFaults() {
				wantRouterOk(t, fmt.Sprint("faults ", i, " and ", j), routerWith(r, func(r *impl.Router) { fault(r); other(r) }), false)
			}
		}
	}
}

// begunBy is the resting router with this call begun at 40.
func begunBy(c impl.Call, o impl.Op) impl.Router {
	return busyRouter(c, []int{4, 5, 7}, nil, todo(0, o))
}

func TestRouterCallByHand(t *testing.T) {
	for _, c := range []struct {
		name string
		c    impl.Call
		o    impl.Op
	}{
		{"several points", fourWrite(), impl.Op{Kind: 1, From: 10, To: 400}},
		{"one point", writeCall("cpu", pointsAt(10, 1)), impl.Op{Kind: 1, From: 10, To: 11}},
		{"one point at 0", writeCall("cpu", pointsAt(0, 1)), impl.Op{Kind: 1, From: 0, To: 1}},
		{"two points side by side", writeCall("cpu", pointsAt(99, 1, 100, 2)), impl.Op{Kind: 1, From: 99, To: 101}},
		{"MaxPoints", writeCall("cpu", pointsEvery(5, 1000, 60, 1)), impl.Op{Kind: 1, From: 5, To: 59006}},
		{"the last time", writeCall("cpu", pointsAt(farTime, 1)), impl.Op{Kind: 1, From: farTime - 1, To: farTime}},
		{"the last two times", writeCall("cpu", pointsAt(farTime-1, 1, farTime, 2)), impl.Op{Kind: 1, From: farTime - 1, To: farTime}},
		{"up to the last time", writeCall("cpu", pointsAt(farTime-2, 1, farTime, 2)), impl.Op{Kind: 1, From: farTime - 2, To: farTime}},
		{"all times", writeCall("cpu", pointsAt(0, 1, farTime, 2)), impl.Op{Kind: 1, From: 0, To: farTime}},
		{"one below the last time", writeCall("cpu", pointsAt(farTime-1, 1)), impl.Op{Kind: 1, From: farTime - 1, To: farTime}},
		{"up to one below the last time", writeCall("cpu", pointsAt(farTime-2, 1, farTime-1, 1)), impl.Op{Kind: 1, From: farTime - 2, To: farTime}},
		{"two below the last time", writeCall("cpu", pointsAt(farTime-2, 1)), impl.Op{Kind: 1, From: farTime - 2, To: farTime - 1}},
		{"a read", fourRead(), impl.Op{Kind: 1, From: 10, To: 400}},
		{"a read of all", readCall("cpu", 0, farTime), impl.Op{Kind: 1, From: 0, To: farTime}},
		{"a read of one time", readCall("cpu", 0, 1), impl.Op{Kind: 1, From: 0, To: 1}},
		{"a read of the last time but one", readCall("cpu", farTime-1, farTime), impl.Op{Kind: 1, From: farTime - 1, To: farTime}},
		{"a trim", trimCall(100), impl.Op{Kind: 2, From: 100}},
		{"a trim at 0", trimCall(0), impl.Op{Kind: 2}},
		{"a trim of all", trimCall(farTime), impl.Op{Kind: 2, From: farTime}},
		{"a hold", holdCall(70), impl.Op{Kind: 3, From: 70}},
		{"a hold of 0", holdCall(0), impl.Op{Kind: 3}},
		{"a hold of all", holdCall(100000), impl.Op{Kind: 3, From: 100000}},
	} {
		wantCalled(t, c.name, restingRouter(), c.c, 40, begunBy(c.c, c.o), true)
	}
}

// Of each Kind at each time, by routers of each Id and with Serials at their edges.
func TestRouterCallOfRightRouters(t *testing.T) {
	for _, c := range someCalls() {
		for _, now := range []int{0, 1, 999999, 1000000} {
			want := begunBy(c, slowFirst(c))
			want.Begun = now
			wantCalled(t, "at this time", restingRouter(), c, now, want, true)
		}
		for id := 1; id <= 4; id++ {
			for _, serials := range [][]int{{0, 0, 0}, {999999, 0, 1}, {0, 999999, 999999}, {999999, 999999, 999999}} {
				want := impl.Router{Id: id, Serials: []int{serials[0] + 1, serials[1], serials[2]}, Busy: true, Call: c, Begun: 7, Todo: []impl.Todo{{Op: slowFirst(c)}}}
				wantCalled(t, "these Serials", impl.Router{Id: id, Serials: serials}, c, 7, want, true)
			}
		}
	}
}

func TestRouterCallRefused(t *testing.T) {
	for _, now := range []int{math.MinInt, -2, -1, 1000001, 1000002, math.MaxInt} {
		wantCallRefused(t, "now out of range", restingRouter(), fourRead(), now)
	}
	for _, c := range wrongCalls() {
		wantCallRefused(t, "not CallOk", restingRouter(), c, 40)
	}
	for group := range 3 {
		x := routerWith(restingRouter(), func(r *impl.Router) { r.Serials[group] = 1000000 })
		for _, c := range someCalls() {
			wantCallRefused(t, fmt.Sprint("Serial ", group, " at MaxSerial"), x, c, 40)
		}
		x.Serials[group]--
		if _, ok := wantCalledWords(t, "one below MaxSerial", x, fourRead(), 40); !ok {
			t.Errorf("Serial %d one below MaxSerial is refused", group)
		}
	}
	for _, r := range append(busyRouters(), strangeRouters()...) {
		for _, c := range append(someCalls(), r.Call) {
			wantCallRefused(t, "Busy", r, c, 40)
		}
	}
}

// What is named ahead of the router's not being right leaves even such a router as it is.
func TestRouterCallOfRoutersThatAreNotRight(t *testing.T) {
	wrong := []impl.Router{{}, {Id: 2}, {Id: 5, Serials: []int{1, 1, 1}}, {Id: 2, Serials: []int{1, 1}}, {Id: 2, Serials: []int{1, 1, 1, 1}}, {Id: 2, Serials: []int{1, -1, 1}}, {Id: 2, Serials: []int{1, 1, 1000001}},
		routerWith(restingRouter(), func(r *impl.Router) { r.Begun = 3 }), routerWith(restingRouter(), func(r *impl.Router) { r.Call = fourRead() }), routerWith(restingRouter(), func(r *impl.Router) { r.Legs = []impl.Leg{fourRouted()} }), routerWith(restingRouter(), func(r *impl.Router) { r.Todo = []impl.Todo{{}} })}
	for _, r := range wrong {
		wantRouterOk(t, "not right", r, false)
		for _, c := range someCalls() {
			wantCalled(t, "not right", r, c, 40, impl.Router{}, false)
		}
		wantCallRefused(t, "not right, and Busy", routerWith(r, func(r *impl.Router) { r.Busy = true }), fourRead(), 40)
		wantCallRefused(t, "not right, and now out of range", r, fourRead(), -1)
		wantCallRefused(t, "not right, and now out of range", r, fourRead(), 1000001)
		for _, c := range wrongCalls() {
			wantCallRefused(t, "not right, and not CallOk", r, c, 40)
		}
		for i := range r.Serials {
			wantCallRefused(t, "not right, and a Serial at MaxSerial", routerWith(r, func(r *impl.Router) { r.Serials[i] = 1000000 }), fourRead(), 40)
		}
	}
	full := impl.Router{Id: 0, Serials: []int{5, 5, 5, 1000000}}
	wantCallRefused(t, "not right, and a Serial too many at MaxSerial", full, fourRead(), 40)
}

// Each two reasons and more at once.
func TestRouterCallWithSeveralReasons(t *testing.T) {
	for reasons := range 16 {
		r, c, now := restingRouter(), fourRead(), 40
		if reasons&1 != 0 {
			r = busyRouters()[4]
		}
		if reasons&2 != 0 {
			c.To = c.From
		}
		if reasons&4 != 0 {
			r.Serials[1] = 1000000
		}
		if reasons&8 != 0 {
			now = -1
		}
		if reasons != 0 {
			wantCallRefused(t, fmt.Sprint("reasons ", reasons), r, c, now)
			r.Id = 0
			wantCallRefused(t, fmt.Sprint("reasons ", reasons, ", not right"), r, c, now)
		}
	}
}

func TestRouterSayByHand(t *testing.T) {
	all := busyRouters()
	for _, c := range []struct {
		r      impl.Router
		group  int
		serial int
		data   string
	}{
		{all[0], 0, 4, "\x01\x00\x0a\x90\x03"},
		{all[1], 1, 6, "\x04\x03cpu\x00\x00" + slowShowBlock(pointsAt(399, 4))},
		{all[2], 2, 8, "\x04\x03cpu\x00\x00" + slowShowBlock(pointsAt(10, 1, 120, 2, 130, -3))},
		{all[4], 1, 6, "\x05\x03cpu\x0a\x90\x03"},
		{all[5], 2, 8, "\x05\x03cpu\x0a\x90\x03"},
		{all[6], 0, 4, "\x02\x00\x64\x00"},
		{all[7], 1, 6, "\x06\x00\x5a\x00"},
		{all[8], 2, 8, "\x06\x00\x5a\x00"},
		{all[9], 0, 4, "\x03\x00\x46\x00"},
	} {
		for to := range 5 {
			wantSaid(t, "by hand", c.r, to, c.group, impl.Msg{Kind: 6, From: 12, To: to, Index: c.serial, Data: c.data}, true)
		}
		for id := 1; id <= 4; id++ {
			wantSaid(t, "another Id", routerWith(c.r, func(r *impl.Router) { r.Id = id }), 3, c.group, impl.Msg{Kind: 6, From: 10 + id, To: 3, Index: c.serial, Data: c.data}, true)
		}
		for _, serial := range []int{1, 1000000} {
			x := routerWith(c.r, func(r *impl.Router) { r.Serials[c.group] = serial })
			wantSaid(t, "another Serial", x, 0, c.group, impl.Msg{Kind: 6, From: 12, To: 0, Index: serial, Data: c.data}, true)
		}
	}
}

func TestRouterSaysNothing(t *testing.T) {
	for _, r := range rightRouters() {
		for _, to := range []int{math.MinInt, -2, -1, 5, 6, 9, 10, 11, 12, 14, 15, math.MaxInt} {
			wantSaid(t, "to no server", r, to, 0, impl.Msg{}, false)
		}
		for to := range 5 {
			wantSaidWords(t, "to a server", r, to)
			for _, fault := range routerFaults() {
				wantSaid(t, "not right", routerWith(r, fault), to, 0, impl.Msg{}, false)
			}
		}
	}
	for _, r := range restingRouters() {
		for to := range 5 {
			wantSaid(t, "not Busy", r, to, 0, impl.Msg{}, false)
		}
	}
}

// repliedBy is what a router with the Id 2 and a call begun at 40 comes to that replies at 60.
func repliedBy(c impl.Call, serials []int, code int, points []impl.Point, legs ...impl.Leg) heard {
	return heard{impl.Router{Id: 2, Serials: serials}, impl.Reply{Router: 2, Call: c, Code: code, Points: points, Legs: legs, Begun: 40, Ended: 60}, true}
}

// wantReplied wants the router to reply by this answer, with its Legs and the one of this answer.
func wantReplied(t *testing.T, name string, r impl.Router, a impl.Answer, code int, points []impl.Point) {
	t.Helper()
	first := r.Todo[0]
	legs := append(slices.Clone(r.Legs), leg(first.Group, r.Serials[first.Group], first.Op, a))
	wantHeard(t, name, r, first.Group, answerMsg(r, a), 60, repliedBy(r.Call, r.Serials, code, points, legs...))
}

// wantGoesOn wants the router to begin the first of these behind Legs and the one of this answer.
func wantGoesOn(t *testing.T, name string, r impl.Router, a impl.Answer, todo ...impl.Todo) impl.Router {
	t.Helper()
	first := r.Todo[0]
	want := copyRouter(r)
	want.Legs = append(want.Legs, leg(first.Group, r.Serials[first.Group], first.Op, a))
	want.Todo = todo
	want.Serials[todo[0].Group]++
	return wantHeard(t, name, r, first.Group, answerMsg(r, a), 60, heard{r: want}).r
}

// A write, from its call on, by hand.
func TestAWriteByHand(t *testing.T) {
	r := wantCalled(t, "the call", restingRouter(), fourWrite(), 40, busyRouters()[0], true)
	data := "\x00\x01\x01\x01\x02\x00\x03\x00"
	first := leg(0, 4, impl.Op{Kind: 1, From: 10, To: 400}, impl.Answer{Index: 8, Mark: 10, Data: data})
	one := impl.Op{Kind: 4, Key: "cpu", Data: slowShowBlock(pointsAt(399, 4))}
	other := impl.Op{Kind: 4, Key: "cpu", Data: slowShowBlock(pointsAt(10, 1, 120, 2, 130, -3))}
	m := impl.Msg{Kind: 7, From: 3, To: 12, Index: 4, Data: "\x00\x08\x0a" + data}
	r = wantHeard(t, "the route", r, 0, m, 50, heard{r: impl.Router{Id: 2, Serials: []int{4, 6, 7}, Busy: true, Call: fourWrite(), Begun: 40, Legs: []impl.Leg{first}, Todo: []impl.Todo{{Group: 1, Op: one}, {Group: 2, Op: other}}}}).r
	wantUnheard(t, "the route, again", r, 0, m, 50)
	second := leg(1, 6, one, impl.Answer{Index: 3, Mark: 20})
	m = impl.Msg{Kind: 7, From: 0, To: 12, Index: 6, Data: "\x00\x03\x14"}
	r = wantHeard(t, "shard 0", r, 1, m, 55, heard{r: impl.Router{Id: 2, Serials: []int{4, 6, 8}, Busy: true, Call: fourWrite(), Begun: 40, Legs: []impl.Leg{first, second}, Todo: []impl.Todo{{Group: 2, Op: other}}}}).r
	wantUnheard(t, "shard 0, again", r, 1, m, 55)
	wantUnheard(t, "shard 0's answer, from shard 1", r, 2, m, 55)
	third := leg(2, 8, other, impl.Answer{Index: 4})
	m = impl.Msg{Kind: 7, From: 4, To: 12, Index: 8, Data: "\x00\x04\x00"}
	got := wantHeard(t, "shard 1", r, 2, m, 60, repliedBy(fourWrite(), []int{4, 6, 8}, 0, nil, first, second, third))
	for group := range 3 {
		wantUnheard(t, "shard 1, again", got.r, group, m, 60)
	}
	next := wantCalled(t, "the next call", got.r, fourRead(), 61, impl.Router{Id: 2, Serials: []int{5, 6, 8}, Busy: true, Call: fourRead(), Begun: 61, Todo: []impl.Todo{{Op: routeOp(10, 400)}}}, true)
	for group := range 3 {
		wantUnheard(t, "shard 1, behind the next call", next, group, m, 62)
	}
}

// A read, from its call on, by hand.
func TestAReadByHand(t *testing.T) {
	r := wantCalled(t, "the call", restingRouter(), fourRead(), 40, busyRouters()[3], true)
	o := impl.Op{Kind: 5, Key: "cpu", From: 10, To: 400}
	first := leg(0, 4, impl.Op{Kind: 1, From: 10, To: 400}, impl.Answer{Index: 8, Data: "\x00\x01\x03\x00"})
	r = wantHeard(t, "the route", r, 0, toldMsg(0, 12, 4, "\x00\x08\x00\x00\x01\x03\x00"), 50, heard{r: busyRouter(fourRead(), []int{4, 6, 7}, []impl.Leg{first}, todo(1, o), todo(2, o))}).r
	block := slowShowBlock(pointsAt(20, 1, 300, 2, 310, 3))
	second := leg(1, 6, o, impl.Answer{Index: 3, Mark: 20, Data: block})
	r = wantHeard(t, "shard 0", r, 1, toldMsg(0, 12, 6, "\x00\x03\x14"+block), 55, heard{r: busyRouter(fourRead(), []int{4, 6, 8}, []impl.Leg{first, second}, todo(2, o))}).r
	block = slowShowBlock(pointsAt(15, 4, 20, 5, 305, 6))
	third := leg(2, 8, o, impl.Answer{Index: 4, Data: block})
	wantHeard(t, "shard 1", r, 2, toldMsg(4, 12, 8, "\x00\x04\x00"+block), 60, repliedBy(fourRead(), []int{4, 6, 8}, 0, pointsAt(15, 4, 20, 5, 300, 2, 305, 6, 310, 3), first, second, third))
}

// A trim and a hold, from their calls on, by hand.
func TestATrimAndAHoldByHand(t *testing.T) {
	r := wantCalled(t, "a trim", restingRouter(), trimCall(100), 40, busyRouters()[6], true)
	r = wantGoesOn(t, "the mark", r, impl.Answer{Index: 9, Mark: 90}, todo(1, impl.Op{Kind: 6, From: 90}), todo(2, impl.Op{Kind: 6, From: 90}))
	r = wantGoesOn(t, "shard 0", r, impl.Answer{Index: 3, Mark: 90}, todo(2, impl.Op{Kind: 6, From: 90}))
	wantHeard(t, "shard 1", r, 2, toldMsg(0, 12, 8, "\x00\x04\x5a"), 60, repliedBy(trimCall(100), []int{4, 6, 8}, 0, nil,
		leg(0, 4, impl.Op{Kind: 2, From: 100}, impl.Answer{Index: 9, Mark: 90}), leg(1, 6, impl.Op{Kind: 6, From: 90}, impl.Answer{Index: 3, Mark: 90}), leg(2, 8, impl.Op{Kind: 6, From: 90}, impl.Answer{Index: 4, Mark: 90})))
	r = wantCalled(t, "a hold", restingRouter(), holdCall(70), 40, busyRouters()[9], true)
	wantHeard(t, "the hold", r, 0, toldMsg(0, 12, 4, "\x00\x09\x5a"), 60, repliedBy(holdCall(70), []int{4, 5, 7}, 0, nil, leg(0, 4, impl.Op{Kind: 3, From: 70}, impl.Answer{Index: 9, Mark: 90})))
}

// A Mark makes a trim of each group, whatever Data are; a hold needs none.
func TestTrimsAndHolds(t *testing.T) {
	for _, data := range []string{"", "no route", "\xff", toldRoute(dealt(3, 0)), oneBlock, strings.Repeat("d", 900)} {
		for _, mark := range []int{0, 1, 90, farTime} {
			for _, from := range []int{0, 100, farTime} {
				r := begunBy(trimCall(from), markOp(from))
				wantGoesOn(t, "a trim", r, impl.Answer{Index: 9, Mark: mark, Data: data}, todo(1, raiseOp(mark)), todo(2, raiseOp(mark)))
			}
			for _, from := range []int{0, 70, 100000} {
				r := begunBy(holdCall(from), holdOp(from))
				wantReplied(t, "a hold", r, impl.Answer{Index: 9, Mark: mark, Data: data}, 0, nil)
			}
		}
	}
}

// Whatever is asked of whom, a code but AnOk is replied at once.
func TestCodesThatAreReplied(t *testing.T) {
	for _, r := range append(busyRouters(), strangeRouters()...) {
		for code := 1; code <= 4; code++ {
			for _, a := range []impl.Answer{{}, fourRoute(), {Mark: farTime}, {Index: 100000, Mark: 5, Data: slowShowBlock(fourPoints())}, {Data: "no route"}} {
				a.Code = code
				wantReplied(t, fmt.Sprint("code ", code), r, a, code, nil)
			}
		}
	}
}

func TestWritesThatAreLate(t *testing.T) {
	r := begunBy(fourWrite(), routeOp(10, 400))
	for _, mark := range []int{0, 9, 10} {
		a := fourRoute()
		a.Mark = mark
		wantGoesOn(t, fmt.Sprint("Mark ", mark), r, a, fourTodo()...)
	}
	for _, mark := range []int{11, 12, 119, 120, 121, 399, 400, 1000, farTime} {
		for _, data := range []string{fourRoute().Data, "", "\xff", toldRoute(dealt(0, 1)), "no route"} {
			wantReplied(t, fmt.Sprint("Mark ", mark), r, impl.Answer{Index: 8, Mark: mark, Data: data}, impl.AnLate, nil)
		}
	}
	for _, n := range []int{0, 1, 500, farTime - 1, farTime} {
		c := writeCall("cpu", pointsAt(n, 1))
		x := begunBy(c, slowFirst(c))
		a := impl.Answer{Mark: n, Data: toldRoute(dealt(n/100, 1))}
		wantGoesOn(t, "at the Mark", x, a, todo(2, writeOp("cpu", pointsAt(n, 1))))
		if n < farTime {
			a.Mark++
			wantReplied(t, "one below the Mark", x, a, impl.AnLate, nil)
		}
	}
	// Of no other call is a point late.
	read := begunBy(fourRead(), routeOp(10, 400))
	wantGoesOn(t, "a read", read, impl.Answer{Mark: farTime, Data: toldRoute(dealt(2, 0))}, todo(1, readOp("cpu", 10, 400)))
}

// noRoutes are Data that Routes does not take.
func noRoutes() []string {
	four := fourRoute().Data
	return []string{"no route", "\xff", four + "\x04", four + "\x04\x02", four + "\x03\x00", four[:len(four)-1], "\x00\x01\x01\x01\x02\x00\x03\x02", "\x03\x00\x02\x00\x01\x01\x00\x01", toldRoute(append(dealt(0, 1), inTurn(1, 8)...)), four + vars(farBucket+1, 0), "\x80\x00" + four[1:]}
}

func TestCallsThatAreNotRouted(t *testing.T) {
	write, read := begunBy(fourWrite(), routeOp(10, 400)), begunBy(fourRead(), routeOp(10, 400))
	for _, data := range noRoutes() {
		wantReplied(t, "a write, Data "+impl.Hex(data), write, impl.Answer{Index: 8, Mark: 10, Data: data}, impl.AnNone, nil)
		wantReplied(t, "a read, Data "+impl.Hex(data), read, impl.Answer{Index: 8, Mark: 10, Data: data}, impl.AnNone, nil)
	}
	for _, l := range [][]impl.Bucket{nil, dealt(0, 1), dealt(0, 1, 1, 1), dealt(0, 1, 3, 1), dealt(1, 0, 3, 0), dealt(3, 0), dealt(1, 0, 2, 0, 3, 0, 4, 0), dealt(0, 0, 1, 0, 2, 0, 4, 0), dealt(4, 1, 5, 1, 9, 1), dealt(farBucket, 1)} {
		wantReplied(t, "a bucket lacks", write, impl.Answer{Index: 8, Mark: 10, Data: toldRoute(l)}, impl.AnNone, nil)
	}
}

func TestWritesThatAreRouted(t *testing.T) {
	l := fourPoints()
	w := func(group int, points ...impl.Point) impl.Todo { return todo(group, writeOp("cpu", points)) }
	r := begunBy(fourWrite(), routeOp(10, 400))
	for _, c := range []struct {
		name string
		l    []impl.Bucket
		want []impl.Todo
	}{
		{"shard 0 alone", dealt(0, 0, 1, 0, 3, 0), []impl.Todo{w(1, l...)}},
		{"shard 1 alone", dealt(0, 1, 1, 1, 3, 1), []impl.Todo{w(2, l...)}},
		{"shard 0, and buckets of the other one without a point", dealt(0, 0, 1, 0, 2, 1, 3, 0, 4, 1), []impl.Todo{w(1, l...)}},
		{"shard 1, and buckets of the other one without a point", dealt(0, 1, 1, 1, 2, 0, 3, 1, 4, 0, farBucket, 0), []impl.Todo{w(2, l...)}},
		{"the first bucket at 0", dealt(0, 0, 1, 1, 3, 1), []impl.Todo{w(1, l[0]), w(2, l[1:]...)}},
		{"the first bucket at 1", dealt(0, 1, 1, 0, 3, 0), []impl.Todo{w(1, l[1:]...), w(2, l[0])}},
		{"the middle one at 0", dealt(0, 1, 1, 0, 3, 1), []impl.Todo{w(1, l[1], l[2]), w(2, l[0], l[3])}},
		{"the middle one at 1", dealt(0, 0, 1, 1, 3, 0), []impl.Todo{w(1, l[0], l[3]), w(2, l[1], l[2])}},
		{"the last one at 0", dealt(0, 1, 1, 1, 3, 0), []impl.Todo{w(1, l[3]), w(2, l[:3]...)}},
		{"the last one at 1", dealt(0, 0, 1, 0, 3, 1), []impl.Todo{w(1, l[:3]...), w(2, l[3])}},
		{"in turn, of MaxCover buckets", inTurn(0, 8), []impl.Todo{w(1, l[0]), w(2, l[1:]...)}},
	} {
		wantGoesOn(t, c.name, r, impl.Answer{Index: 8, Data: toldRoute(c.l)}, c.want...)
	}
	long := pointsEvery(0, 13, 60, 5)
	x := begunBy(writeCall("zzzzzzzz", long), routeOp(0, 768))
	wantGoesOn(t, "MaxPoints at one shard", x, impl.Answer{Data: toldRoute(everyBucket(0, 8, 1))}, todo(2, writeOp("zzzzzzzz", long)))
	even, odd := slices.DeleteFunc(slices.Clone(long), func(p impl.Point) bool { return p.T/100%2 == 1 }), slices.DeleteFunc(slices.Clone(long), func(p impl.Point) bool { return p.T/100%2 == 0 })
	wantGoesOn(t, "MaxPoints at both", x, impl.Answer{Data: toldRoute(inTurn(0, 8))}, todo(1, writeOp("zzzzzzzz", even)), todo(2, writeOp("zzzzzzzz", odd)))
	far := begunBy(writeCall("cpu", pointsAt(farTime-80, 1, farTime-76, 2, farTime, 3)), routeOp(farTime-80, farTime))
	wantGoesOn(t, "the last two buckets", far, impl.Answer{Data: toldRoute(dealt(farBucket-1, 1, farBucket, 0))}, w(1, pointsAt(farTime-76, 2, farTime, 3)...), w(2, pointsAt(farTime-80, 1)...))
}

func TestReadsThatAreRouted(t *testing.T) {
	r := begunBy(fourRead(), routeOp(10, 400))
	one, other := todo(1, readOp("cpu", 10, 400)), todo(2, readOp("cpu", 10, 400))
	for _, c := range []struct {
		name string
		l    []impl.Bucket
		want []impl.Todo
	}{
		{"shard 0", dealt(0, 0), []impl.Todo{one}}, {"shard 1", dealt(0, 1), []impl.Todo{other}}, {"shard 0, several times", everyBucket(0, 8, 0), []impl.Todo{one}}, {"shard 1, several times", everyBucket(0, 8, 1), []impl.Todo{other}},
		{"both", dealt(0, 0, 1, 1), []impl.Todo{one, other}}, {"both, the last one first", dealt(0, 1, 1, 0), []impl.Todo{one, other}}, {"both, in turn", inTurn(0, 8), []impl.Todo{one, other}}, {"both, one of them last", append(everyBucket(0, 7, 1), dealt(7, 0)...), []impl.Todo{one, other}},
		{"buckets that it does not ask for", dealt(7, 1, farBucket, 0), []impl.Todo{one, other}},
	} {
		wantGoesOn(t, c.name, r, impl.Answer{Index: 8, Mark: 200, Data: toldRoute(c.l)}, c.want...)
	}
	for _, mark := range []int{0, 200, farTime} {
		wantReplied(t, "no shard", r, impl.Answer{Index: 8, Mark: mark}, impl.AnOk, nil)
	}
	for _, c := range []impl.Call{readCall("a", 0, 1), readCall("zzzzzzzz", 0, farTime), readCall("cpu", farTime-1, farTime)} {
		wantGoesOn(t, "another read", begunBy(c, slowFirst(c)), fourRoute(), todo(1, readOp(c.Key, c.From, c.To)), todo(2, readOp(c.Key, c.From, c.To)))
	}
}

// The last leg, and one ahead of it, of each call.
func TestLastLegs(t *testing.T) {
	for _, r := range append(busyRouters(), strangeRouters()...) {
		for many := 1; len(r.Legs) > 0 && many <= 3-len(r.Legs); many++ {
			for _, serials := range [][]int{{4, 6, 8}, {1, 1, 1}, {1000000, 999999, 999999}} {
				x := routerWith(r, func(r *impl.Router) { r.Todo, r.Serials = slices.Repeat(r.Todo[:1], many), serials })
				if many == 2 {
					x.Todo[1] = todo(3-x.Todo[0].Group, flushOp())
					wantGoesOn(t, "one more", x, impl.Answer{Index: 5}, x.Todo[1])
					x.Todo[1] = todo(x.Todo[0].Group, flushOp())
					wantGoesOn(t, "one more of the same group", x, impl.Answer{Index: 5}, x.Todo[1])
				} else if got := answered(t, "the last one", x, impl.Answer{Index: 5}); !got.done || got.y.Code != impl.AnOk {
					t.Fatalf("the last one: %s\n= %s", brief(x), got)
				}
			}
		}
	}
}

// No call goes on behind MaxSerial.
func TestNextLegsAtMaxSerial(t *testing.T) {
	write, read, trim := begunBy(fourWrite(), routeOp(10, 400)), begunBy(fourRead(), routeOp(10, 400)), begunBy(trimCall(100), markOp(100))
	for _, r := range []impl.Router{write, read, trim} {
		x := routerWith(r, func(r *impl.Router) { r.Serials = []int{1000000, 1000000, 7} })
		wantReplied(t, "the first shard at MaxSerial", x, fourRoute(), impl.AnFull, nil)
		x.Serials = []int{4, 999999, 1000000}
		x = wantGoesOn(t, "the first shard one below", x, fourRoute(), slowRouterHear(x, 0, answerMsg(x, fourRoute()), 60).r.Todo...)
		if x.Serials[1] != 1000000 {
			t.Fatalf("not begun: %s", brief(x))
		}
		wantReplied(t, "the second shard at MaxSerial", x, impl.Answer{Index: 5, Data: slowShowBlock(pointsAt(20, 2))}, impl.AnFull, nil)
		x.Serials[2]--
		x = wantGoesOn(t, "the second shard one below", x, impl.Answer{Index: 5}, x.Todo[1])
		if got := answered(t, "all at MaxSerial", x, impl.Answer{Index: 5}); got.y.Code != impl.AnOk || !slices.Equal(got.r.Serials, []int{4, 1000000, 1000000}) {
			t.Fatalf("all at MaxSerial: %s", got)
		}
	}
	// What is not asked may be at MaxSerial; where nobody is to be asked, none counts.
	x := routerWith(read, func(r *impl.Router) { r.Serials = []int{1000000, 1000000, 7} })
	wantGoesOn(t, "the other shard at MaxSerial", x, impl.Answer{Data: toldRoute(dealt(0, 1))}, todo(2, readOp("cpu", 10, 400)))
	wantReplied(t, "nobody is asked", x, impl.Answer{}, impl.AnOk, nil)
	wantReplied(t, "not routed", x, impl.Answer{Data: "\xff"}, impl.AnNone, nil)
	wantReplied(t, "another code", x, impl.Answer{Code: impl.AnBad}, impl.AnBad, nil)
	x = routerWith(write, func(r *impl.Router) { r.Serials = []int{1000000, 1000000, 1000000} })
	late := fourRoute()
	late.Mark = 11
	wantReplied(t, "late", x, late, impl.AnLate, nil)
	hold := routerWith(begunBy(holdCall(70), holdOp(70)), func(r *impl.Router) { r.Serials = []int{1000000, 1000000, 1000000} })
	wantReplied(t, "a hold", hold, impl.Answer{}, impl.AnOk, nil)
	same := busyRouter(fourRead(), []int{4, 1000000, 7}, []impl.Leg{fourRouted()}, todo(1, flushOp()), todo(1, flushOp()))
	wantReplied(t, "the same shard", same, impl.Answer{Data: oneBlock}, impl.AnFull, nil)
}

// readLegs is a read that waits for its last leg, behind legs with these Data.
func readLegs(data ...string) impl.Router {
	r := busyRouter(fourRead(), []int{4, 6, 8}, []impl.Leg{fourRouted()}, todo(2, readOp("cpu", 10, 400)))
	for _, d := range data {
		r.Legs = append(r.Legs, leg(1, 6, readOp("cpu", 10, 400), impl.Answer{Index: 3, Data: d}))
	}
	return r
}

func TestPointsOfReads(t *testing.T) {
	show := slowShowBlock
	for _, c := range []struct {
		name string
		r    impl.Router
		data string
		want []impl.Point
	}{
		{"one leg without points", readLegs(), "", nil},
		{"one leg", readLegs(), show(pointsAt(20, 1, 30, 2)), pointsAt(20, 1, 30, 2)},
		{"two without points", readLegs(""), "", nil},
		{"the first one alone has some", readLegs(show(pointsAt(20, 1, 30, 2))), "", pointsAt(20, 1, 30, 2)},
		{"the second one alone has some", readLegs(""), show(pointsAt(20, 1, 30, 2)), pointsAt(20, 1, 30, 2)},
		{"one ahead of the other", readLegs(show(pointsAt(20, 1, 30, 2))), show(pointsAt(40, 3)), pointsAt(20, 1, 30, 2, 40, 3)},
		{"one behind the other", readLegs(show(pointsAt(40, 3))), show(pointsAt(20, 1, 30, 2)), pointsAt(20, 1, 30, 2, 40, 3)},
		{"one within the other", readLegs(show(pointsAt(20, 1, 30, 2))), show(pointsAt(25, 3)), pointsAt(20, 1, 25, 3, 30, 2)},
		{"one time in both", readLegs(show(pointsAt(20, 1, 30, 2))), show(pointsAt(30, 3)), pointsAt(20, 1, 30, 3)},
		{"all times in both", readLegs(show(pointsAt(20, 1, 30, 2))), show(pointsAt(20, -1, 30, 0)), pointsAt(20, -1, 30, 0)},
		{"one point in both", readLegs(show(pointsAt(20, 1))), show(pointsAt(20, 1)), pointsAt(20, 1)},
		{"times that it did not ask for", readLegs(show(pointsAt(0, 1, farTime, 2))), show(pointsAt(5, 3)), pointsAt(0, 1, 5, 3, farTime, 2)},
		{"MaxPoints of each", readLegs(show(pointsEvery(0, 2, 60, 1))), show(pointsEvery(1, 2, 60, 1)), pointsEvery(0, 1, 120, 1)},
		{"MaxPoints, and one more", readLegs(show(pointsEvery(0, 1, 60, 1))), show(pointsAt(60, 1)), pointsEvery(0, 1, 61, 1)},
		{"MaxPoints ahead of MaxPoints", readLegs(show(pointsEvery(60, 1, 60, 1))), show(pointsEvery(0, 1, 60, 1)), pointsEvery(0, 1, 120, 1)},
		{"no block", readLegs("no block"), show(pointsAt(20, 1)), pointsAt(20, 1)},
		{"no block behind one", readLegs(show(pointsAt(20, 1))), "no block", pointsAt(20, 1)},
		{"a block of no points", readLegs(rawBlock(0, nil)), rawBlock(0, nil), nil},
		{"a block that goes on", readLegs(show(pointsAt(20, 1)) + "\x00"), show(pointsAt(30, 1)), pointsAt(30, 1)},
	} {
		wantReplied(t, c.name, c.r, impl.Answer{Index: 5, Mark: 15, Data: c.data}, impl.AnOk, c.want)
		for code := 1; code <= 4; code++ {
			wantReplied(t, c.name, c.r, impl.Answer{Code: code, Index: 5, Data: c.data}, code, nil)
		}
		for _, call := range []impl.Call{fourWrite(), trimCall(100), holdCall(70)} {
			x := c.r
			x.Call = call
			wantReplied(t, c.name+", and no read", x, impl.Answer{Index: 5, Data: c.data}, impl.AnOk, nil)
		}
	}
	// The first leg counts for none, whatever it has; a leg that has another code counts.
	r := readLegs(show(pointsAt(20, 1)))
	r.Legs[0].Answer.Data, r.Legs[0].Group = show(pointsAt(5, 5)), 1
	r.Legs[1].Answer.Code = impl.AnLate
	wantReplied(t, "a block in the first leg", r, impl.Answer{Data: show(pointsAt(30, 1))}, impl.AnOk, pointsAt(20, 1, 30, 1))
	r = begunBy(fourRead(), routeOp(10, 400))
	wantReplied(t, "the first leg alone, with a block", r, impl.Answer{Data: oneBlock}, impl.AnNone, nil)
}

// takenBy is what a router that is Busy takes, and of which group.
func takenBy(r impl.Router) (int, impl.Msg) {
	return r.Todo[0].Group, answerMsg(r, fourRoute())
}

func TestWhatIsNotHeard(t *testing.T) {
	for _, r := range append(busyRouters(), strangeRouters()...) {
		group, m := takenBy(r)
		for _, now := range []int{0, 1, 39, 999999, 1000000} {
			if got := wantHeardWords(t, "at another time", r, group, m, now); sameRouter(got.r, r) {
				t.Fatalf("not heard at %d: %s", now, brief(r))
			}
		}
		for _, now := range []int{math.MinInt, -2, -1, 1000001, 1000002, math.MaxInt} {
			wantUnheard(t, "now out of range", r, group, m, now)
		}
		for _, other := range []int{math.MinInt, -1, 0, 1, 2, 3, 4, math.MaxInt} {
			if other != group {
				wantUnheard(t, "another group", r, other, m, 60)
			}
		}
		for from := range 5 {
			if got := wantHeardWords(t, "from another server", r, group, toldMsg(from, m.To, m.Index, m.Data), 60); sameRouter(got.r, r) {
				t.Fatalf("not heard of server %d: %s", from, brief(r))
			}
		}
		for _, from := range []int{-1, 5, 10, 11, 12, 14, 15, math.MaxInt} {
			wantUnheard(t, "from no server", r, group, toldMsg(from, m.To, m.Index, m.Data), 60)
		}
		for _, to := range []int{math.MinInt, -1, 0, 1, 2, 10, 11, 13, 14, 15, math.MaxInt} {
			wantUnheard(t, "to another one", r, group, toldMsg(1, to, m.Index, m.Data), 60)
		}
		for _, by := range []int{-1000000, -2, -1, 1, 2, 1000000, 1 << 32} {
			wantUnheard(t, "another Serial", r, group, toldMsg(1, m.To, m.Index+by, m.Data), 60)
		}
		for _, data := range []string{"", "\x00", "\x00\x01", "\x05\x01\x00", "\x80\x00\x01\x00", slowVar(0) + slowVar(100001) + "\x00", "\x00\x01" + slowVar(farTime+1), "\x00\x01\x00" + strings.Repeat("d", 901)} {
			wantUnheard(t, "Data that ReadAnswer does not take", r, group, toldMsg(1, m.To, m.Index, data), 60)
		}
		for _, turn := range msgTurns() {
			x := m
			turn.do(&x)
			wantHeardWords(t, "with "+turn.field, r, group, x, 60)
			if !slices.Contains([]string{"Index", "Data"}, turn.field) {
				wantUnheard(t, "with "+turn.field, r, group, x, 60)
			}
		}
		for kind := -1; kind <= 9; kind++ {
			x := m
			x.Kind = kind
			if kind != impl.MsTold {
				wantUnheard(t, "another Kind", r, group, x, 60)
			}
		}
		for _, x := range append(sampleMsgs(), callMsg(m.To, 1, m.Index, flushText), callMsg(m.To, 1, m.Index, m.Data)) {
			wantHeardWords(t, "a sample", r, group, x, 60)
			if x.Kind != impl.MsTold {
				wantUnheard(t, "another message", r, group, x, 60)
			}
		}
	}
}

// A router that is not Busy hears nothing, whatever it is told; so does one that is not right, and is lost.
func TestRoutersThatHearNothing(t *testing.T) {
	for _, r := range restingRouters() {
		for group := -1; group <= 3; group++ {
			for serial := range 10 {
				wantUnheard(t, "not Busy", r, group, toldMsg(1, 10+r.Id, serial, toldText), 60)
			}
			if within(group, 0, 2) {
				wantUnheard(t, "not Busy, the Serial that it has", r, group, toldMsg(1, 10+r.Id, r.Serials[group], toldText), 60)
			}
		}
	}
	for _, r := range append(busyRouters(), strangeRouters()...) {
		group, m := takenBy(r)
		for _, fault := range routerFaults() {
			x := routerWith(r, fault)
			for _, now := range []int{60, -1, 1000001} {
				wantHeard(t, "not right", x, group, m, now, heard{})
				wantHeard(t, "not right", x, group+1, m, now, heard{})
				wantHeard(t, "not right", x, group, impl.Msg{}, now, heard{})
			}
			x.Busy = false
			wantHeard(t, "not right, and not Busy", x, group, m, 60, heard{})
		}
	}
}

// Each reason with each other one: the router stays as it is.
func TestRouterHearWithSeveralReasons(t *testing.T) {
	for _, r := range append(busyRouters(), strangeRouters()...) {
		for reasons := 1; reasons < 128; reasons++ {
			group, m := takenBy(r)
			x, now := copyRouter(r), 60
			if reasons&1 != 0 {
				x = impl.Router{Id: r.Id, Serials: r.Serials}
			}
			if reasons&2 != 0 {
				group = (group + 1) % 3
			}
			if reasons&4 != 0 {
				m.From = 5
			}
			if reasons&8 != 0 {
				m.Kind = impl.MsCall
			}
			if reasons&16 != 0 {
				m.To = 11
			}
			if reasons&32 != 0 {
				m.Index--
			}
			if reasons&64 != 0 {
				now = -1
			}
			wantUnheard(t, fmt.Sprint("reasons ", reasons), x, group, m, now)
			x.Id = 0
			wantHeard(t, fmt.Sprint("reasons ", reasons, ", not right"), x, group, m, now, heard{})
		}
	}
}

// someRight draws until what is drawn is right.
func someRight[T any](r *rand.Rand, some func(r *rand.Rand) T, right func(v T) bool) T {
	for {
		if v := some(r); right(v) {
			return v
		}
	}
}

// nearTime is a time in one of a few buckets, now and then at the end of all times.
func nearTime(r *rand.Rand) int {
	return pick(r, r.IntN(300), r.IntN(300), 100*r.IntN(5), 100*r.IntN(5)+99, farTime-r.IntN(200))
}

// nearPoints are right, one at least.
func nearPoints(r *rand.Rand) []impl.Point {
	at := map[int]int{}
	for range pick(r, 1, 1, 2, 3, 5, 20) {
		at[nearTime(r)] = r.IntN(9) - 4
	}
	return byTime(at, 0)
}

// nearCall is a right call, of times that go with nearTime.
func nearCall(r *rand.Rand) impl.Call {
	from, key := nearTime(r), pick(r, "a", "b", "cpu", "zzzzzzzz")
	return pick(r, writeCall(key, nearPoints(r)), writeCall(key, nearPoints(r)), readCall(key, min(from, farTime-1), min(from+1+r.IntN(500), farTime)), readCall(key, 0, farTime), trimCall(from), holdCall(r.IntN(300)))
}

// rightRouter is a right router by chance; many are what no call leads to.
func rightRouter(r *rand.Rand) impl.Router {
	serial := func(least int) int { return pick(r, least, 1, 1+r.IntN(300), 999999, 1000000) }
	x := impl.Router{Id: 1 + r.IntN(4), Serials: []int{serial(0), serial(0), serial(0)}}
	if r.IntN(8) == 0 {
		return x
	}
	x.Busy, x.Call, x.Begun = true, nearCall(r), pick(r, 0, 40, r.IntN(1000001), 1000000)
	legs := r.IntN(3)
	for range legs {
		a := someRight(r, someAnswer, slowAnswerOk)
		if r.IntN(3) > 0 {
			a = impl.Answer{Index: 1 + r.IntN(9), Mark: r.IntN(300), Data: pick(r, "", slowShowBlock(nearPoints(r)))}
		}
		x.Legs = append(x.Legs, leg(r.IntN(3), serial(1), someRight(r, someOp, slowOpOk), a))
	}
	op := func() impl.Op {
		return pick(r, slowFirst(x.Call), slowFirst(x.Call), someRight(r, someOp, slowOpOk))
	}
	if legs == 0 {
		x.Todo = []impl.Todo{todo(0, op())}
	}
	for many := 1 + r.IntN(3-legs); legs > 0 && len(x.Todo) < many; {
		x.Todo = append(x.Todo, todo(1+r.IntN(2), op()))
	}
	group := x.Todo[0].Group
	x.Serials[group] = max(x.Serials[group], 1)
	return x
}

// nearRoute is Data of a route that has much to do with the call.
func nearRoute(r *rand.Rand, c impl.Call) string {
	points, _ := slowReadBlock(c.Data)
	shards := map[int]int{}
	for _, p := range points {
		shards[p.T/100] = r.IntN(2)
	}
	for range r.IntN(3) {
		shards[r.IntN(6)] = r.IntN(2)
	}
	if r.IntN(8) == 0 && len(points) > 0 {
		delete(shards, pick(r, points...).T/100)
	}
	var l []impl.Bucket
	for number, shard := range shards {
		l = append(l, impl.Bucket{Number: number, Shard: shard})
	}
	slices.SortFunc(l, func(a, b impl.Bucket) int { return a.Number - b.Number })
	data := toldRoute(l)
	if r.IntN(12) == 0 {
		data = someText(r, data)
	}
	return data
}

// nearAnswer is what the first of Todo may be answered.
func nearAnswer(r *rand.Rand, x impl.Router) impl.Answer {
	a := impl.Answer{Index: 1 + r.IntN(50), Mark: pick(r, 0, 0, 0, r.IntN(300), farTime)}
	if points, _ := slowReadBlock(x.Call.Data); len(points) > 0 && r.IntN(3) == 0 {
		a.Mark = min(farTime, max(0, pick(r, points[0], points[0], points[len(points)-1]).T+r.IntN(3)-1))
	}
	switch {
	case r.IntN(12) == 0:
		a.Code = 1 + r.IntN(4)
	case r.IntN(12) == 0:
		return someRight(r, someAnswer, slowAnswerOk)
	}
	a.Data = pick(r, "", slowShowBlock(nearPoints(r)))
	if len(x.Todo) > 0 && x.Todo[0].Group == 0 {
		a.Data = nearRoute(r, x.Call)
	}
	return a
}

// nearHeard is a message that the router takes more often than not, with its group and a time.
func nearHeard(r *rand.Rand, x impl.Router) (int, impl.Msg, int) {
	group, serial := r.IntN(3), 1
	if len(x.Todo) > 0 {
		group = x.Todo[0].Group
	}
	if within(group, 0, len(x.Serials)-1) {
		serial = x.Serials[group]
	}
	m, now := toldMsg(r.IntN(5), 10+x.Id, serial, answerTexts().raw(nearAnswer(r, x))), pick(r, 0, 60, 1000000, r.IntN(1000001))
	switch r.IntN(16) {
	case 0:
		turnMsg(r, &m)
	case 1:
		m = rightMsg(r)
	case 2:
		group = r.IntN(5) - 1
	case 3:
		now = pick(r, -1, 1000001, math.MinInt, math.MaxInt)
	case 4:
		m.Index += pick(r, -1, 1)
	}
	return group, m, now
}

// wayOfHeard tells what came of it.
func wayOfHeard(x impl.Router, got heard) string {
	switch {
	case got.done && len(got.y.Points) > 0:
		return "replied with points"
	case got.done:
		return fmt.Sprint("replied ", got.y.Code, " of kind ", got.y.Call.Kind)
	case sameRouter(x, got.r):
		return "unheard"
	case len(got.r.Legs) == 1:
		return fmt.Sprint("cut in ", len(got.r.Todo), " of kind ", got.r.Call.Kind)
	}
	return "goes on"
}

func TestRoutersByChance(t *testing.T) {
	r := rand.New(rand.NewPCG(20, 1))
	ways := map[string]int{}
	for range 12000 {
		x := rightRouter(r)
		wantRouterOk(t, "by chance", x, true)
		wantSaidWords(t, "by chance", x, r.IntN(8)-1)
		wantCalledWords(t, "by chance", x, nearCall(r), pick(r, 0, 60, 1000000, -1))
		group, m, now := nearHeard(r, x)
		got := wantHeardWords(t, "by chance", x, group, m, now)
		ways[wayOfHeard(x, got)]++
	}
	for _, way := range []string{"unheard", "goes on", "replied with points", "cut in 1 of kind 1", "cut in 2 of kind 1", "cut in 1 of kind 2", "cut in 2 of kind 2", "cut in 2 of kind 3",
		"replied 0 of kind 1", "replied 0 of kind 2", "replied 0 of kind 3", "replied 0 of kind 4", "replied 2 of kind 1", "replied 3 of kind 1", "replied 3 of kind 2", "replied 3 of kind 3", "replied 4 of kind 1", "replied 4 of kind 2"} {
		if ways[way] < 10 {
			t.Errorf("%q came %d times", way, ways[way])
		}
	}
}

// turnRouter puts something by chance, often at an edge, in the place of a field.
func turnRouter(r *rand.Rand, x *impl.Router) {
	number := func() int {
		return pick(r, -1, 0, 1, 2, 3, 4, 5, 999999, 1000000, 1000001, math.MaxInt, math.MinInt)
	}
	switch r.IntN(10) {
	case 0:
		x.Id = number()
	case 1:
		if len(x.Serials) > 0 {
			x.Serials[r.IntN(len(x.Serials))] = number()
		}
	case 2:
		x.Serials = pick(r, x.Serials[:len(x.Serials)/2], append(x.Serials, 1), []int{1, 2, 3})
	case 3:
		x.Busy = !x.Busy
	case 4:
		x.Begun = number()
	case 5:
		x.Call = pick(r, impl.Call{}, asCall(r.IntN(6), someOp(r)), nearCall(r))
	case 6:
		x.Legs = append(x.Legs, leg(r.IntN(4), r.IntN(3), someOp(r), someAnswer(r)))
	case 7:
		x.Todo = append(x.Todo, todo(r.IntN(4), someOp(r)))
	case 8:
		if len(x.Legs) > 0 {
			x.Legs[r.IntN(len(x.Legs))] = leg(r.IntN(5)-1, number(), someOp(r), someAnswer(r))
		}
		if len(x.Todo) > 0 {
			x.Todo[r.IntN(len(x.Todo))] = todo(r.IntN(5)-1, someOp(r))
		}
	case 9:
		x.Legs, x.Todo = x.Legs[:len(x.Legs)/2], x.Todo[:(len(x.Todo)+1)/2]
	}
}

func TestTurnedRouters(t *testing.T) {
	r := rand.New(rand.NewPCG(20, 2))
	right, not := 0, 0
	for range 12000 {
		x := rightRouter(r)
		for range pick(r, 1, 1, 1, 2, 3) {
			turnRouter(r, &x)
		}
		ok := slowRouterOk(x)
		wantRouterOk(t, "turned", x, ok)
		group, m, now := nearHeard(r, x)
		wantHeardWords(t, "turned", x, group, m, now)
		wantSaidWords(t, "turned", x, r.IntN(5))
		wantCalledWords(t, "turned", x, pick(r, nearCall(r), impl.Call{}), pick(r, 0, 60, -1))
		if ok {
			right++
		} else {
			not++
		}
	}
	if right < 1200 || not < 3000 {
		t.Errorf("%d right, %d not", right, not)
	}
}

// A postal is a message under way to or from a group.
type postal struct {
	group int
	m     impl.Msg
}

// A place is what a group was asked by a router with a serial.
type place struct {
	group, router, serial int
}

// A routerRun is routers whose calls the states of the three groups answer, and what is under way between them.
type routerRun struct {
	t       *testing.T
	r       *rand.Rand
	states  [3]impl.State
	ever    [3]int
	routers []impl.Router
	net     []postal
	now     int
	begun   []impl.Call
	legs    map[place]impl.Leg
	replies []impl.Reply
}

func newRouterRun(t *testing.T, r *rand.Rand, routers int) *routerRun {
	x := &routerRun{t: t, r: r, begun: make([]impl.Call, routers), legs: map[place]impl.Leg{}}
	for group := range x.states {
		x.states[group], _ = impl.NewState(min(1+group, 2))
	}
	for i := range routers {
		x.routers = append(x.routers, impl.Router{Id: i + 1, Serials: []int{0, 0, 0}})
	}
	return x
}

func (x *routerRun) call(i int, c impl.Call) {
	x.t.Helper()
	x.now++
	ahead := x.routers[i]
	next, ok := wantCalledWords(x.t, "a run", ahead, c, x.now)
	if ok == ahead.Busy {
		x.t.Fatalf("%s is called by %s: %v", brief(ahead), brief(c), ok)
	}
	if ok {
		x.begun[i] = c
	}
	x.routers[i] = next
}

func (x *routerRun) say(i int) {
	x.t.Helper()
	group, m, ok := impl.RouterSay(x.routers[i], x.r.IntN(5))
	if ok != x.routers[i].Busy {
		x.t.Fatalf("%s says %s, %v", brief(x.routers[i]), brief(m), ok)
	}
	if ok {
		x.net = append(x.net, postal{group, m})
	}
}

// serve has a group answer a call, as a server does that leads.
func (x *routerRun) serve(p postal) {
	x.t.Helper()
	o, ok := impl.ReadOp(p.m.Data)
	if !ok || !impl.MsgOk(p.m) {
		x.t.Fatalf("said %s", brief(p.m))
	}
	client := p.m.From - 10
	next, a, did := impl.Serve(x.states[p.group], client, p.m.Index, o, x.ever[p.group]+1)
	if did {
		x.ever[p.group]++
		x.states[p.group] = next
		x.legs[place{p.group, client, p.m.Index}] = impl.Leg{Group: p.group, Serial: p.m.Index, Op: o, Answer: a}
	}
	if slowSession(x.states[p.group], client).Serial == p.m.Index {
		x.net = append(x.net, postal{p.group, toldMsg(p.m.To, p.m.From, p.m.Index, impl.ShowAnswer(a))})
	}
}

// hear has a router hear what it is told; what it replies must be what it began, with its legs as they were told.
func (x *routerRun) hear(p postal) {
	x.t.Helper()
	x.now++
	i := p.m.To - 11
	var got heard
	if x.r.IntN(4) == 0 {
		got = wantHeardWords(x.t, "a run", x.routers[i], p.group, p.m, x.now)
	} else {
		got = hears(x.routers[i], p.group, p.m, x.now)
		wantRouterPromise(x.t, "a run", x.routers[i], p.m, x.now, got)
	}
	if got.done {
		x.replied(i, got.y)
	}
	x.routers[i] = got.r
}

func (x *routerRun) replied(i int, y impl.Reply) {
	x.t.Helper()
	if y.Router != i+1 || y.Call != x.begun[i] || y.Begun >= y.Ended || y.Ended != x.now {
		x.t.Fatalf("router %d began %s\nand replies %s", i+1, brief(x.begun[i]), brief(y))
	}
	x.begun[i] = impl.Call{}
	for _, l := range y.Legs {
		if told := x.legs[place{l.Group, i + 1, l.Serial}]; told != l {
			x.t.Fatalf("router %d replies %s\nbut the leg %s was told", i+1, brief(y), brief(told))
		}
	}
	var points []impl.Point
	if y.Code == impl.AnOk && y.Call.Kind == impl.ClRead {
		points = slowLegsPoints(y.Legs)
	}
	if !slices.Equal(y.Points, points) {
		x.t.Fatalf("router %d replies %s\nwith other points than its legs'", i+1, brief(y))
	}
	x.replies = append(x.replies, y)
}

// deliver has what is under way come to its end; it stays under way, too, where it comes twice.
func (x *routerRun) deliver(at int, stays bool) {
	x.t.Helper()
	p := x.net[at]
	if !stays {
		x.net = slices.Delete(x.net, at, at+1)
	}
	if p.m.Kind == impl.MsCall {
		x.serve(p)
	} else {
		x.hear(p)
	}
}

// drain has each router say what it waits for until none does.
func (x *routerRun) drain() {
	x.t.Helper()
	for range 20 {
		for len(x.net) > 0 {
			x.deliver(0, false)
		}
		for i := range x.routers {
			x.say(i)
		}
	}
	for i, r := range x.routers {
		if r.Busy || x.begun[i] != (impl.Call{}) {
			x.t.Fatalf("router %d is at no end: %s", i+1, brief(r))
		}
	}
}

// runCall is a call in a book whose times go on; some are refused.
func (x *routerRun) runCall() impl.Call {
	r, now := x.r, 300+x.now/2
	from, key := max(0, now-r.IntN(300)), pick(r, "a", "a", "a", "a", "b", "c", "d", "e", "f")
	at := map[int]int{}
	for range pick(r, 2, 3, 8, 8) {
		at[now-r.IntN(300)] = r.IntN(100)
	}
	write, read := writeCall(key, byTime(at, 0)), readCall(key, from, from+1+r.IntN(400))
	return pick(r, write, write, write, read, read, readCall(key, from, from+900), trimCall(max(0, now-100-r.IntN(300))), holdCall(r.IntN(100)))
}

func (x *routerRun) step() {
	x.t.Helper()
	switch i := x.r.IntN(len(x.routers)); x.r.IntN(7) {
	case 0:
		x.call(i, x.runCall())
	case 1, 2:
		x.say(i)
	default:
		if len(x.net) == 0 {
			return
		}
		at := x.r.IntN(len(x.net))
		if x.r.IntN(8) == 0 {
			x.net = slices.Delete(x.net, at, at+1)
			return
		}
		x.deliver(at, x.r.IntN(4) == 0 && len(x.net) < 30)
	}
}

// Routers through whole calls, with what is under way lost, late, in another order and twice.
func TestRunsOfRouters(t *testing.T) {
	r := rand.New(rand.NewPCG(20, 3))
	codes, parts, points := map[int]int{}, map[int]int{}, 0
	for run := range 100 {
		x := newRouterRun(t, r, 1+run%4)
		for range 1500 {
			x.step()
		}
		x.drain()
		for _, y := range x.replies {
			codes[y.Code]++
			parts[len(y.Legs)]++
			points += len(y.Points)
		}
	}
	if codes[impl.AnOk] < 1000 || codes[impl.AnLate] < 50 || codes[impl.AnBad] < 50 || codes[impl.AnFull] < 10 || parts[1] < 100 || parts[2] < 300 || parts[3] < 300 || points < 500 {
		t.Errorf("codes %v, legs %v, %d points", codes, parts, points)
	}
}

// One router, whose calls each come to their end: it reads just what it wrote last.
func TestARouterReadsWhatItWrote(t *testing.T) {
	r := rand.New(rand.NewPCG(20, 4))
	told := 0
	for range 60 {
		x := newRouterRun(t, r, 1)
		var wrote putList
		for range 20 {
			key, at := pick(r, "a", "b"), map[int]int{}
			for range 1 + r.IntN(3) {
				at[r.IntN(12)*50] = r.IntN(100)
			}
			x.call(0, writeCall(key, byTime(at, 0)))
			x.drain()
			wrote = wrote.with(key, byTime(at, 0))
			key, from := pick(r, "a", "b"), r.IntN(500)
			to := from + 1 + r.IntN(600-from)
			x.call(0, readCall(key, from, to))
			x.drain()
			y := x.replies[len(x.replies)-1]
			if want := slowSlice(wrote.has(key), from, to); y.Code != impl.AnOk || !slices.Equal(y.Points, want) {
				t.Fatalf("%s: read %s from %d to %d: %s, want %s", brief(wrote), key, from, to, brief(y), brief(want))
			}
			told += len(y.Points)
		}
	}
	if told < 1000 {
		t.Errorf("%d points", told)
	}
}

// Routers that hear whatever comes, by chance, and go on.
func TestRoutersThatGoOnByChance(t *testing.T) {
	r := rand.New(rand.NewPCG(20, 5))
	begun, replied := 0, 0
	for range 300 {
		x := rightRouter(r)
		if x.Busy {
			begun++
		}
		for range 40 {
			if c, now := nearCall(r), r.IntN(1000001); r.IntN(4) == 0 {
				next, ok := wantCalledWords(t, "on and on", x, c, now)
				if ok {
					begun++
				}
				x = next
				continue
			}
			group, m, now := nearHeard(r, x)
			got := wantHeardWords(t, "on and on", x, group, m, now)
			if got.done {
				replied++
			}
			x = got.r
		}
		if x.Busy {
			begun--
		}
	}
	if begun != replied || replied < 500 {
		t.Errorf("%d calls begun and not under way any more, %d replied", begun, replied)
	}
}

// spareRouter has room behind each list, and texts of its own.
func spareRouter(x impl.Router) impl.Router {
	ownOp := func(o impl.Op) impl.Op {
		o.Key, o.Data = strings.Clone(o.Key), strings.Clone(o.Data)
		return o
	}
	serials, legs, todos := append(slices.Clone(x.Serials), 77, 78), append(slices.Clone(x.Legs), impl.Leg{Group: 77}, impl.Leg{Group: 78}), append(slices.Clone(x.Todo), impl.Todo{Group: 77}, impl.Todo{Group: 78})
	for i := range legs {
		legs[i].Op, legs[i].Answer.Data = ownOp(legs[i].Op), strings.Clone(legs[i].Answer.Data)
	}
	for i := range todos {
		todos[i].Op = ownOp(todos[i].Op)
	}
	x.Call.Key, x.Call.Data = strings.Clone(x.Call.Key), strings.Clone(x.Call.Data)
	x.Serials, x.Legs, x.Todo = serials[:len(x.Serials)], legs[:len(x.Legs)], todos[:len(x.Todo)]
	return x
}

// sameRouterWithRoom asks whether the router, and what stands behind its lists, are as spareRouter made them.
func sameRouterWithRoom(a, b impl.Router) bool {
	all := func(x impl.Router) impl.Router {
		x.Serials, x.Legs, x.Todo = x.Serials[:len(x.Serials)+2], x.Legs[:len(x.Legs)+2], x.Todo[:len(x.Todo)+2]
		return x
	}
	return sameRouter(all(a), all(b))
}

func textsInCall(c impl.Call) []string {
	return []string{c.Key, c.Data}
}

func textsInLegs(legs []impl.Leg) []string {
	var l []string
	for _, x := range legs {
		l = append(l, x.Op.Key, x.Op.Data, x.Answer.Data)
	}
	return l
}

func textsInRouter(x impl.Router) []string {
	l := append(textsInCall(x.Call), textsInLegs(x.Legs)...)
	for _, t := range x.Todo {
		l = append(l, t.Op.Key, t.Op.Data)
	}
	return l
}

func textsInHeard(h heard) []string {
	return slices.Concat(textsInRouter(h.r), textsInCall(h.y.Call), textsInLegs(h.y.Legs))
}

// wipe writes over a list and the room behind it.
func wipe[T any](l []T, v T) {
	l = l[:cap(l)]
	for i := range l {
		l[i] = v
	}
}

// heardSpoilers each write over one list of the answer.
func heardSpoilers(h heard) []func() {
	return []func(){
		func() { wipe(h.r.Serials, 99) }, func() { wipe(h.r.Legs, impl.Leg{Group: 99}) }, func() { wipe(h.r.Todo, impl.Todo{Group: 99}) },
		func() { wipe(h.y.Points, impl.Point{T: 99}) }, func() { wipe(h.y.Legs, impl.Leg{Group: 98}) },
	}
}

// heardLists are the same lists, each as a text.
func heardLists(h heard) []string {
	return []string{fmt.Sprint(h.r.Serials), fmt.Sprint(h.r.Legs), fmt.Sprint(h.r.Todo), fmt.Sprint(h.y.Points), fmt.Sprint(h.y.Legs)}
}

// wantHeardApart wants no list of the answer, which it writes over, to share memory with another one of it, and no text with another text.
func wantHeardApart(t *testing.T, name string, h heard) {
	t.Helper()
	texts := textsInHeard(h)
	for i, text := range texts {
		wantNewTexts(t, name, []string{text}, texts[:i])
	}
	ahead := heardLists(h)
	for i, spoil := range heardSpoilers(h) {
		if heardLists(h)[i] != ahead[i] {
			t.Fatalf("%s: list %d of the answer shares memory with one ahead of it", name, i)
		}
		spoil()
	}
}

// wantRouterMemory wants what do answers of a router to be new memory, twice, and nothing to be written into the router.
func wantRouterMemory(t *testing.T, name string, r impl.Router, others []string, do func(r impl.Router) heard) {
	t.Helper()
	x, ahead := spareRouter(r), spareRouter(r)
	want := do(copyRouter(r))
	first, second := do(x), do(x)
	wantNewTexts(t, name, textsInHeard(first), slices.Concat(textsInHeard(second), textsInRouter(x), others))
	for _, spoil := range heardSpoilers(second) {
		spoil()
	}
	if !sameRouterWithRoom(x, ahead) {
		t.Fatalf("%s wrote into %s, or its answer is part of it: %s", name, brief(ahead), brief(x))
	}
	for _, spoil := range heardSpoilers(heard{r: x}) {
		spoil()
	}
	if !sameHeard(first, want) {
		t.Fatalf("%s of %s\nhangs on its argument, or on another answer: %s", name, brief(r), first)
	}
	wantHeardApart(t, name, do(spareRouter(r)))
}

func TestRouterAnswersNewMemory(t *testing.T) {
	wrong := routerWith(busyRouters()[4], func(r *impl.Router) { r.Id = 9 })
	for _, r := range append(rightRouters(), wrong, impl.Router{}) {
		for _, c := range append(someCalls(), wrongCalls()...) {
			c.Key, c.Data = strings.Clone(c.Key), strings.Clone(c.Data)
			wantRouterMemory(t, "RouterCall", r, textsInCall(c), func(r impl.Router) heard {
				next, ok := impl.RouterCall(r, c, 40)
				return heard{r: next, done: ok}
			})
		}
		group, serial := 0, 1
		if r.Busy {
			group = r.Todo[0].Group
			serial = r.Serials[group]
		}
		for _, a := range []impl.Answer{{}, fourRoute(), {Code: 3}, {Data: slowShowBlock(fourPoints())}, {Data: toldRoute(inTurn(0, 8))}} {
			for _, m := range []impl.Msg{spareMsg(toldMsg(1, 10+r.Id, serial, answerTexts().raw(a))), spareMsg(toldMsg(1, 10+r.Id, serial+1, answerTexts().raw(a))), spareMsg(appMsg(0, 3, 7, 5, 3, 9, entriesOf(3, 5, 7)...))} {
				said := spareMsg(m)
				wantRouterMemory(t, "RouterHear", r, textsInMsg(m), func(r impl.Router) heard { return hears(r, group, m, 60) })
				if !sameMsg(m, said) {
					t.Fatalf("RouterHear wrote into %s", brief(m))
				}
			}
		}
		x := spareRouter(r)
		_, m, _ := impl.RouterSay(x, 1)
		_, other, _ := impl.RouterSay(x, 1)
		wantNewTexts(t, "RouterSay", textsInMsg(m), append(textsInRouter(x), textsInMsg(other)...))
		impl.RouterOk(x)
		if !sameRouterWithRoom(x, spareRouter(r)) {
			t.Fatalf("RouterSay or RouterOk wrote into %s", brief(r))
		}
	}
}

// Nothing is kept from one call to another: what is asked again is answered again.
func TestRoutersAreAskedAgain(t *testing.T) {
	r := rand.New(rand.NewPCG(20, 6))
	for range 3000 {
		x, c := rightRouter(r), nearCall(r)
		group, m, now := nearHeard(r, x)
		first := hears(x, group, m, now)
		called, ok := impl.RouterCall(x, c, now)
		other := rightRouter(r)
		impl.RouterCall(other, nearCall(r), 5)
		hears(other, other.Id, m, now)
		if again := hears(x, group, m, now); !sameHeard(first, again) {
			t.Fatalf("%s hears %s\n= %s\nand then %s", brief(x), brief(m), first, again)
		}
		if again, okAgain := impl.RouterCall(x, c, now); !sameRouter(called, again) || ok != okAgain {
			t.Fatalf("%s is called by %s\n= %s\nand then %s", brief(x), brief(c), brief(called), brief(again))
		}
	}
}

func TestRoutersAnswerAtEveryArgument(t *testing.T) {
	long := strings.Repeat("a", 20000)
	for _, i := range []int{math.MinInt, -1, 0, 3, math.MaxInt} {
		for kind := -1; kind <= 6; kind++ {
			wantCallOk(t, "far too much", impl.Call{Kind: kind, Key: long, From: i, To: i, Data: long}, false)
			wantCallOk(t, "far too long", impl.Call{Kind: kind, Key: "cpu", Data: long}, false)
		}
		far := impl.Router{Id: i, Serials: []int{i, i, i, i}, Busy: true, Call: impl.Call{Kind: i}, Begun: i, Legs: []impl.Leg{leg(i, i, impl.Op{Kind: i}, impl.Answer{Code: i})}, Todo: []impl.Todo{todo(i, impl.Op{Kind: i})}}
		for _, r := range append(rightRouters(), far, impl.Router{}, routerWith(busyRouters()[1], func(r *impl.Router) { r.Todo[0].Group = i }), routerWith(busyRouters()[1], func(r *impl.Router) { r.Serials = nil })) {
			for _, j := range []int{math.MinInt, -1, 0, 1, 2, 3, math.MaxInt} {
				wantHeardWords(t, "anywhere", r, j, toldMsg(j, j, j, long), i)
				wantHeardWords(t, "anywhere", r, j, toldMsg(1, 10+r.Id, j, toldText), i)
				wantHeardWords(t, "anywhere", r, j, impl.Msg{Kind: i, From: j, To: j, Term: j, Index: j, IndexTerm: j, Commit: j, Entries: sameEntries(3, j, "x"), Data: "x"}, j)
				wantSaidWords(t, "anywhere", r, j)
				wantCalledWords(t, "anywhere", r, fourRead(), j)
				wantCalledWords(t, "anywhere", r, impl.Call{Kind: i, Key: long, From: j, To: i, Data: long}, j)
			}
		}
		wantRouterOk(t, "far too many", impl.Router{Id: 1, Serials: make([]int, 100000), Busy: true, Call: fourRead(), Legs: make([]impl.Leg, 100000), Todo: make([]impl.Todo, 100000)}, false)
	}
}
