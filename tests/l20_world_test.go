package tests

import (
	"fmt"
	"math"
	"math/rand/v2"
	"slices"
	"strings"
	"testing"

	"loop.example/g00360/impl"
)

// Promise 21: in each world that is played, of each group: no number has two entries, no term two leaders that are up, and each node's state is what Ever up to its Commit comes to.
// Promise 22: what a beginning of the Acts leaves as each group's Ever and as Replies, all of them leave as a beginning.

// The slow functions do the document's words step by step, to be held against the program.

func slowReplyOk(y impl.Reply, now int) bool {
	if !slowCallOk(y.Call) || !within(y.Router, 1, 4) || y.Begun < 0 || y.Begun > y.Ended || y.Ended > now || len(y.Legs) > 3 {
		return false
	}
	for _, l := range y.Legs {
		if !within(l.Group, 0, 2) || !within(l.Serial, 1, 1000000) || !slowOpOk(l.Op) || !slowAnswerOk(l.Answer) {
			return false
		}
	}
	return true
}

func slowWorldOk(w impl.World) bool {
	if len(w.Crews) != 3 || len(w.Routers) > 4 || len(w.Replies) > 200 || !within(w.Now, 0, 1000000) {
		return false
	}
	for i, r := range w.Routers {
		if r.Id != i+1 || !slowRouterOk(r) {
			return false
		}
	}
	for _, y := range w.Replies {
		if !slowReplyOk(y, w.Now) {
			return false
		}
	}
	for group, c := range w.Crews {
		if !slowCrewOk(c) || len(c.Nodes) != len(w.Crews[0].Nodes) || c.Nodes[0].Kind != []int{1, 2, 2}[group] {
			return false
		}
	}
	return true
}

func slowNewWorld(s impl.Setup) (impl.World, bool) {
	var w impl.World
	for _, kind := range []int{1, 2, 2} {
		c, ok := impl.NewCrew(s.Peers, s.Room, kind)
		if !ok {
			return impl.World{}, false
		}
		w.Crews = append(w.Crews, c)
	}
	if !within(s.Routers, 0, 4) {
		return impl.World{}, false
	}
	for id := 1; id <= s.Routers; id++ {
		w.Routers = append(w.Routers, impl.Router{Id: id, Serials: []int{0, 0, 0}})
	}
	return w, true
}

// slowTells has a router hear what leaves the net of a group for it.
func slowTells(w impl.World, group int, m impl.Msg) impl.World {
	at := m.To - 11
	if at >= len(w.Routers) {
		return w
	}
	got := slowRouterHear(w.Routers[at], group, m, w.Now)
	w.Routers[at] = got.r
	if got.done && len(w.Replies) < 200 {
		w.Replies = append(w.Replies, got.y)
	}
	return w
}

func slowInGroup(w impl.World, a impl.Act) worldAnswer {
	if a.G < 0 || a.G > 2 {
		return worldAnswer{w, 2}
	}
	c := w.Crews[a.G]
	got := slowCrewDo(c, a)
	if got.code != 3 {
		w.Crews[a.G] = got.c
		return worldAnswer{w, got.code}
	}
	w.Crews[a.G] = slowWithoutMsg(c, a.A)
	return worldAnswer{slowTells(w, a.G, c.Net[a.A]), 0}
}

func slowInAll(w impl.World, a impl.Act) worldAnswer {
	var codes []int
	for group, c := range w.Crews {
		got := slowCrewDo(c, a)
		w.Crews[group] = got.c
		codes = append(codes, got.code)
	}
	return worldAnswer{w, codes[0]}
}

func slowAsks(w impl.World, a impl.Act) worldAnswer {
	if a.A < 0 || a.A >= len(w.Routers) {
		return worldAnswer{w, 2}
	}
	r, ok := slowRouterCall(w.Routers[a.A], a.Call, w.Now)
	w.Routers[a.A] = r
	if !ok {
		return worldAnswer{w, 3}
	}
	return worldAnswer{w, 0}
}

func slowSends(w impl.World, a impl.Act) worldAnswer {
	if a.A < 0 || a.A >= len(w.Routers) || a.B < 0 || a.B >= len(w.Crews[0].Nodes) {
		return worldAnswer{w, 2}
	}
	group, m, ok := slowRouterSay(w.Routers[a.A], a.B)
	if !ok {
		return worldAnswer{w, 3}
	}
	w.Crews[group] = slowSent(w.Crews[group], []impl.Msg{m})
	return worldAnswer{w, 0}
}

func slowWorldDo(w impl.World, a impl.Act) worldAnswer {
	if !slowWorldOk(w) {
		return worldAnswer{code: 1}
	}
	if a.Kind < 1 || a.Kind > 11 || w.Now == 1000000 {
		return worldAnswer{w, 1}
	}
	do := slowInGroup
	switch a.Kind {
	case 5, 6:
		do = slowInAll
	case 10:
		do = slowAsks
	case 11:
		do = slowSends
	}
	got := do(copyWorld(w), a)
	got.w.Now++
	return got
}

// A worldAnswer is what WorldDo answers.
type worldAnswer struct {
	w    impl.World
	code int
}

func doneWorld(w impl.World, a impl.Act) worldAnswer {
	x, code := impl.WorldDo(w, a)
	return worldAnswer{x, code}
}

func copyReply(y impl.Reply) impl.Reply {
	y.Points, y.Legs = slices.Clone(y.Points), slices.Clone(y.Legs)
	return y
}

func copyWorld(w impl.World) impl.World {
	w.Crews, w.Routers, w.Replies = slices.Clone(w.Crews), slices.Clone(w.Routers), slices.Clone(w.Replies)
	for i := range w.Crews {
		w.Crews[i] = copyCrew(w.Crews[i])
	}
	for i := range w.Routers {
		w.Routers[i] = copyRouter(w.Routers[i])
	}
	for i := range w.Replies {
		w.Replies[i] = copyReply(w.Replies[i])
	}
	return w
}

func sameWorld(a, b impl.World) bool {
	return slices.EqualFunc(a.Crews, b.Crews, sameCrew) && slices.EqualFunc(a.Routers, b.Routers, sameRouter) && slices.EqualFunc(a.Replies, b.Replies, sameReply) && a.Now == b.Now
}

func sameWorldAnswer(a, b worldAnswer) bool {
	return sameWorld(a.w, b.w) && a.code == b.code
}

// String is for what a test tells when it fails: of each crew a short account, each router and the last replies.
func (a worldAnswer) String() string {
	s := fmt.Sprintf("code %d, %d crews, %d routers, %d replies, Now %d", a.code, len(a.w.Crews), len(a.w.Routers), len(a.w.Replies), a.w.Now)
	for group, c := range a.w.Crews {
		s += fmt.Sprintf("\n\tgroup %d: %d messages, %d ever, Split %v;", group, len(c.Net), len(c.Ever), c.Split)
		for _, n := range c.Nodes {
			s += fmt.Sprintf(" node %d up %v kind %d role %d term %d base %d commit %d last %d fuel %d;", n.Id, n.Up, n.Kind, n.Core.Role, n.Core.Term, n.Core.Base, n.Core.Commit, slowLast(n.Core), n.Fuel)
		}
		s += "\n\t\t" + brief(c.Net[max(0, len(c.Net)-4):])
	}
	for _, r := range a.w.Routers {
		s += "\n\t" + brief(r)
	}
	return s + "\n\t" + brief(a.w.Replies[max(0, len(a.w.Replies)-3):])
}

// wantGrown wants all that was ever agreed on, and all that was replied, to stand in the later world as a beginning.
func wantGrown(t *testing.T, name string, w, later impl.World) {
	t.Helper()
	for group, c := range w.Crews {
		x := later.Crews[group]
		if len(x.Ever) < len(c.Ever) || !slices.Equal(x.Ever[:len(c.Ever)], c.Ever) || c.Split && !x.Split {
			t.Fatalf("%s: what group %d remembered is lost: %s", name, group, worldAnswer{w: later})
		}
	}
	if len(later.Replies) < len(w.Replies) || !slices.EqualFunc(later.Replies[:len(w.Replies)], w.Replies, sameReply) {
		t.Fatalf("%s: what was replied is lost: %s", name, worldAnswer{w: later})
	}
}

// begunLater asks whether a router has begun behind Now: such a world is right, but what the router replies is not.
func begunLater(w impl.World) bool {
	return slices.ContainsFunc(w.Routers, func(r impl.Router) bool { return r.Begun > w.Now })
}

// wantWorldPromise wants a right world behind an act to be right, with all that it had for ever, and Now to go on with each code but 1.
func wantWorldPromise(t *testing.T, name string, w impl.World, got worldAnswer) {
	t.Helper()
	if !impl.WorldOk(got.w) && !begunLater(w) || len(got.w.Crews[0].Nodes) != len(w.Crews[0].Nodes) || len(got.w.Routers) != len(w.Routers) {
		t.Fatalf("%s: the world is not right then: %s", name, got)
	}
	wantGrown(t, name, w, got.w)
	now := w.Now + 1
	if got.code == 1 {
		now = w.Now
	}
	if !within(got.code, 0, 3) || got.w.Now != now {
		t.Fatalf("%s: Now %d behind Now %d: %s", name, got.w.Now, w.Now, got)
	}
	got.w.Now = w.Now
	if got.code != 0 && !sameWorld(w, got.w) {
		t.Fatalf("%s: refused, and not as it was: %s", name, got)
	}
}

// wantWorldWords wants the act to come to what the words say, to write into nothing, and to keep the promise.
func wantWorldWords(t *testing.T, name string, w impl.World, a impl.Act) worldAnswer {
	t.Helper()
	ahead, want := copyWorld(w), slowWorldDo(w, a)
	got := doneWorld(w, a)
	if !sameWorldAnswer(got, want) {
		t.Fatalf("%s: %v of %s\n= %s\nwant %s", name, a, worldAnswer{w: w}, got, want)
	}
	if !sameWorld(w, ahead) {
		t.Fatalf("%s: %v of %s\nmade it %s", name, a, worldAnswer{w: ahead}, worldAnswer{w: w})
	}
	if slowWorldOk(w) {
		wantWorldPromise(t, name, w, got)
	}
	return got
}

// wantWorld wants the act to come to this, as the words say, too.
func wantWorld(t *testing.T, name string, w impl.World, a impl.Act, want worldAnswer) impl.World {
	t.Helper()
	if said := slowWorldDo(w, a); !sameWorldAnswer(said, want) {
		t.Fatalf("%s: the words say that %v of %s\n= %s\nwant %s", name, a, worldAnswer{w: w}, said, want)
	}
	return wantWorldWords(t, name, w, a).w
}

// wantRefusedIn wants the act to be refused with the code, and nothing to be another thing than it was but Now.
func wantRefusedIn(t *testing.T, name string, w impl.World, a impl.Act, code int) {
	t.Helper()
	wantWorld(t, name, w, a, worldAnswer{at(w, w.Now+1), code})
}

// wantNoAct wants the world as it is, and 1.
func wantNoAct(t *testing.T, name string, w impl.World, a impl.Act) {
	t.Helper()
	wantWorld(t, name, w, a, worldAnswer{w, 1})
}

// at is the world at a time.
func at(w impl.World, now int) impl.World {
	w.Now = now
	return w
}

// worldWith is the world with a change.
func worldWith(w impl.World, change func(w *impl.World)) impl.World {
	w = copyWorld(w)
	change(&w)
	return w
}

// freshWorld has nothing yet.
func freshWorld(peers, routers int) impl.World {
	w := impl.World{Crews: []impl.Crew{freshCrew(peers, 1), freshCrew(peers, 2), freshCrew(peers, 2)}}
	for id := 1; id <= routers; id++ {
		w.Routers = append(w.Routers, impl.Router{Id: id, Serials: []int{0, 0, 0}})
	}
	return w
}

// inPlace has the routers with the Ids of their places.
func inPlace(routers ...impl.Router) []impl.Router {
	for i := range routers {
		routers[i].Id = i + 1
	}
	return routers
}

// someReplies are of each Kind, by three of the routers, ended at 60 at the latest.
func someReplies() []impl.Reply {
	had := impl.Answer{Index: 3, Mark: 10, Data: slowShowBlock(pointsAt(20, 2, 399, 4))}
	read := []impl.Leg{fourRouted(), leg(1, 6, readOp("cpu", 10, 400), had), leg(2, 8, readOp("cpu", 10, 400), impl.Answer{Index: 9})}
	return []impl.Reply{
		{Router: 2, Call: fourWrite(), Code: 2, Legs: []impl.Leg{fourRouted()}, Begun: 3, Ended: 9},
		{Router: 1, Call: fourRead(), Points: pointsAt(20, 2, 399, 4), Legs: read, Begun: 0, Ended: 59},
		{Router: 4, Call: trimCall(100), Code: 3, Legs: []impl.Leg{leg(0, 4, markOp(100), impl.Answer{Code: 3, Index: 9})}, Begun: 60, Ended: 60},
		{Router: 2, Call: holdCall(70), Legs: []impl.Leg{leg(0, 5, holdOp(70), impl.Answer{Index: 9, Mark: 90})}, Begun: 20, Ended: 60},
	}
}

// busyWorld has three routers, one of them at rest, and nodes that are up and down.
func busyWorld() impl.World {
	return impl.World{
		Crews:   []impl.Crew{busyCrew(impl.KdMeta), withDown(busyCrew(impl.KdShard), 0), withDown(busyCrew(impl.KdShard), 1, 2)},
		Routers: inPlace(restingRouter(), busyRouters()[4], busyRouters()[6]),
		Replies: someReplies(),
		Now:     60,
	}
}

// rightWorlds are of one to five nodes, with no router to the most.
func rightWorlds() []impl.World {
	l := []impl.World{busyWorld(), at(busyWorld(), 999999), at(freshWorld(3, 2), 1000000)}
	for peers := 1; peers <= 5; peers++ {
		l = append(l, freshWorld(peers, peers-1))
	}
	return l
}

func TestWorldConstants(t *testing.T) {
	if got, want := []int{impl.MaxActs, impl.MaxReplies, impl.AcCall, impl.AcSend}, []int{140, 200, 10, 11}; !slices.Equal(got, want) {
		t.Errorf("%v, want %v", got, want)
	}
}

// wantWorldOk wants the world to be right or not, and the zero World and 1 of whatever happens to it if it is not.
func wantWorldOk(t *testing.T, name string, w impl.World, right bool) {
	t.Helper()
	if slowWorldOk(w) != right {
		t.Fatalf("%s: is %s right? The words say %v", name, worldAnswer{w: w}, !right)
	}
	ahead := copyWorld(w)
	if impl.WorldOk(w) != right {
		t.Fatalf("%s: WorldOk of %s is %v", name, worldAnswer{w: w}, !right)
	}
	if !right {
		for _, a := range []impl.Act{{}, {Kind: impl.AcElect}, {Kind: impl.AcFall}, {Kind: impl.AcDeliver, G: 3}, {Kind: impl.AcCall, Call: fourRead()}, {Kind: impl.AcSend, A: 9}, {Kind: 12}} {
			if got := doneWorld(w, a); !sameWorldAnswer(got, worldAnswer{code: 1}) {
				t.Fatalf("%s: %v of %s\n= %s", name, a, worldAnswer{w: w}, got)
			}
		}
	}
	if !sameWorld(w, ahead) {
		t.Fatalf("%s: %s became %s", name, worldAnswer{w: ahead}, worldAnswer{w: w})
	}
}

func TestWorldOkOfHowManyCrews(t *testing.T) {
	wantWorldOk(t, "the zero World", impl.World{}, false)
	wantWorldOk(t, "routers alone", impl.World{Routers: inPlace(restingRouter())}, false)
	for _, w := range rightWorlds() {
		wantWorldOk(t, "right", w, true)
		for many := range 3 {
			wantWorldOk(t, fmt.Sprint(many, " crews"), worldWith(w, func(w *impl.World) { w.Crews = w.Crews[:many] }), false)
			wantWorldOk(t, "one of them gone", worldWith(w, func(w *impl.World) { w.Crews = slices.Delete(w.Crews, many, many+1) }), false)
		}
		for _, more := range []int{1, 2, 3, 500} {
			wantWorldOk(t, fmt.Sprint(more, " more"), worldWith(w, func(w *impl.World) { w.Crews = append(w.Crews, slices.Repeat(w.Crews[2:], more)...) }), false)
			wantWorldOk(t, fmt.Sprint(more, " more that are zero"), worldWith(w, func(w *impl.World) { w.Crews = append(w.Crews, make([]impl.Crew, more)...) }), false)
		}
	}
}

func TestWorldOkOfEachCrew(t *testing.T) {
	w := busyWorld()
	for group := range w.Crews {
		for i, fault := range crewFaults() {
			wantWorldOk(t, fmt.Sprint("crew ", group, " with fault ", i), worldWith(w, func(w *impl.World) { fault(&w.Crews[group]) }), false)
		}
		wantWorldOk(t, "a crew that is zero", worldWith(w, func(w *impl.World) { w.Crews[group] = impl.Crew{} }), false)
		wantWorldOk(t, "a crew without nodes", worldWith(w, func(w *impl.World) { w.Crews[group].Nodes = []impl.Node{} }), false)
		wantWorldOk(t, "Split", worldWith(w, func(w *impl.World) { w.Crews[group].Split = true }), true)
		wantWorldOk(t, "nothing under way", worldWith(w, func(w *impl.World) { w.Crews[group].Net = nil }), true)
		for peers := range 8 {
			wantWorldOk(t, fmt.Sprint(peers, " nodes in one crew"), worldWith(w, func(w *impl.World) { w.Crews[group] = freshCrew(peers, min(1+group, 2)) }), peers == 3)
		}
	}
}

// All crews have equally many nodes, whichever of them differs.
func TestWorldOkOfHowManyNodes(t *testing.T) {
	right := 0
	for many := range 6 * 6 * 6 {
		peers := []int{many % 6, many / 6 % 6, many / 36}
		w := impl.World{Crews: []impl.Crew{freshCrew(peers[0], 1), freshCrew(peers[1], 2), freshCrew(peers[2], 2)}}
		alike := peers[0] > 0 && peers[0] == peers[1] && peers[1] == peers[2]
		wantWorldOk(t, fmt.Sprint(peers, " nodes"), w, alike)
		if alike {
			right++
		}
	}
	wantWorldOk(t, "six nodes each", freshWorld(6, 0), false)
	if right != 5 {
		t.Errorf("%d are right", right)
	}
}

// The first crew keeps buckets, the others points.
func TestWorldOkOfKinds(t *testing.T) {
	for many := range 16 * 4 {
		kinds := []int{many % 4, many / 4 % 4, many / 16}
		w := impl.World{Crews: []impl.Crew{freshCrew(2, 1), freshCrew(2, 1), freshCrew(2, 1)}}
		for group, kind := range kinds {
			w.Crews[group] = freshCrew(2, within12(kind))
			for id := range w.Crews[group].Nodes {
				w.Crews[group].Nodes[id].Kind = kind
			}
		}
		wantWorldOk(t, fmt.Sprint("kinds ", kinds), w, slices.Equal(kinds, []int{1, 2, 2}))
	}
	w := busyWorld()
	for group := range w.Crews {
		wantWorldOk(t, "of the other Kind", worldWith(w, func(w *impl.World) { w.Crews[group] = busyCrew(2 - min(group, 1)) }), false)
		wantWorldOk(t, "all down, of the other Kind", worldWith(w, func(w *impl.World) { w.Crews[group] = withDown(busyCrew(2-min(group, 1)), 0, 1, 2) }), false)
		wantWorldOk(t, "all down", worldWith(w, func(w *impl.World) { w.Crews[group] = withDown(busyCrew(min(1+group, 2)), 0, 1, 2) }), true)
		for id := range 3 {
			wantWorldOk(t, "one node of the other Kind", worldWith(w, func(w *impl.World) { w.Crews[group].Nodes[id] = freshNode(id, 3, 2-min(group, 1)) }), false)
		}
	}
	wantWorldOk(t, "the last crew first", worldWith(w, func(w *impl.World) { slices.Reverse(w.Crews) }), false)
	wantWorldOk(t, "the others changed about", worldWith(w, func(w *impl.World) { slices.Reverse(w.Crews[1:]) }), true)
}

// within12 is a kind that there is, that kind if it is one.
func within12(kind int) int {
	return min(max(kind, 1), 2)
}

func TestWorldOkOfRouters(t *testing.T) {
	for _, w := range rightWorlds() {
		for _, many := range []int{0, 1, 2, 3, 4, 5, 6, 100} {
			routers := inPlace(slices.Repeat([]impl.Router{restingRouter()}, many)...)
			wantWorldOk(t, fmt.Sprint(many, " routers"), worldWith(w, func(w *impl.World) { w.Routers = routers }), many <= 4)
		}
		for _, r := range rightRouters() {
			for place := range 4 {
				routers := slices.Repeat([]impl.Router{restingRouter()}, 4)
				routers[place] = r
				wantWorldOk(t, "each router", worldWith(w, func(w *impl.World) { w.Routers = inPlace(routers...) }), true)
				for _, id := range []int{math.MinInt, -1, 0, 1, 2, 3, 4, 5, math.MaxInt} {
					x := worldWith(w, func(w *impl.World) { w.Routers = routers; w.Routers[place].Id = id })
					wantWorldOk(t, fmt.Sprint("Id ", id, " in place ", place), x, id == place+1)
				}
			}
		}
	}
	w := worldWith(busyWorld(), func(w *impl.World) { w.Routers = inPlace(append(w.Routers, busyRouters()[2])...) })
	for place := range 4 {
		for i, fault := range routerFaults() {
			wantWorldOk(t, fmt.Sprint("router ", place, " with fault ", i), worldWith(w, func(w *impl.World) { fault(&w.Routers[place]) }), false)
		}
		wantWorldOk(t, "a router that is zero", worldWith(w, func(w *impl.World) { w.Routers[place] = impl.Router{} }), false)
		wantWorldOk(t, "a router gone", worldWith(w, func(w *impl.World) { w.Routers = slices.Delete(w.Routers, place, place+1) }), place == 3)
		for other := range place {
			wantWorldOk(t, "two routers changed about", worldWith(w, func(w *impl.World) {
				w.Routers[place], w.Routers[other] = w.Routers[other], w.Routers[place]
			}), false)
			wantWorldOk(t, "a router twice", worldWith(w, func(w *impl.World) { w.Routers[place] = w.Routers[other] }), false)
		}
	}
	// A router may have begun at any time that there is.
	for _, begun := range []int{0, 60, 61, 1000000} {
		wantWorldOk(t, "begun", worldWith(w, func(w *impl.World) { w.Routers[1].Begun = begun }), true)
	}
}

func TestWorldOkOfHowManyReplies(t *testing.T) {
	for _, w := range rightWorlds() {
		w.Now = max(w.Now, 60)
		for _, many := range []int{0, 1, 2, 199, 200, 201, 202, 400} {
			var replies []impl.Reply
			for i := range many {
				replies = append(replies, someReplies()[i%4])
			}
			wantWorldOk(t, fmt.Sprint(many, " replies"), worldWith(w, func(w *impl.World) { w.Replies = replies }), many <= 200)
		}
	}
}

// replyCases puts numbers at both edges of a field, one past them, and far beyond.
func replyCases(t *testing.T, name string, w impl.World, of func(w *impl.World) *int, least, most int) {
	t.Helper()
	for _, n := range []int{math.MinInt, -1 << 32, -1, 0, 1, least - 2, least - 1, least, least + 1, (least + most) / 2, most - 1, most, most + 1, most + 2, 1 << 32, 1<<32 + least, math.MaxInt} {
		wantWorldOk(t, fmt.Sprint(name, " ", n), worldWith(w, func(w *impl.World) { *of(w) = n }), within(n, least, most))
	}
}

func TestWorldOkOfEachReply(t *testing.T) {
	w := busyWorld()
	for i, y := range someReplies() {
		replyCases(t, "Router", w, func(w *impl.World) *int { return &w.Replies[i].Router }, 1, 4)
		replyCases(t, "Begun", w, func(w *impl.World) *int { return &w.Replies[i].Begun }, 0, y.Ended)
		replyCases(t, "Ended", w, func(w *impl.World) *int { return &w.Replies[i].Ended }, y.Begun, 60)
		for _, c := range someCalls() {
			wantWorldOk(t, "another Call", worldWith(w, func(w *impl.World) { w.Replies[i].Call = c }), true)
		}
		for _, c := range wrongCalls() {
			wantWorldOk(t, "a Call that is not CallOk", worldWith(w, func(w *impl.World) { w.Replies[i].Call = c }), false)
		}
		for many := range 7 {
			legs := slices.Repeat([]impl.Leg{fourRouted()}, many)
			wantWorldOk(t, fmt.Sprint(many, " Legs"), worldWith(w, func(w *impl.World) { w.Replies[i].Legs = legs }), many <= 3)
		}
		for at := range y.Legs {
			replyCases(t, "Group", w, func(w *impl.World) *int { return &w.Replies[i].Legs[at].Group }, 0, 2)
			replyCases(t, "Serial", w, func(w *impl.World) *int { return &w.Replies[i].Legs[at].Serial }, 1, 1000000)
			replyCases(t, "Code of an Answer", w, func(w *impl.World) *int { return &w.Replies[i].Legs[at].Answer.Code }, 0, 4)
			replyCases(t, "Index of an Answer", w, func(w *impl.World) *int { return &w.Replies[i].Legs[at].Answer.Index }, 0, 100000)
			for _, o := range append(metaOps(), shardOps()...) {
				wantWorldOk(t, "another Op", worldWith(w, func(w *impl.World) { w.Replies[i].Legs[at].Op = o }), true)
			}
			for _, o := range wrongOps() {
				wantWorldOk(t, "an Op that is not OpOk", worldWith(w, func(w *impl.World) { w.Replies[i].Legs[at].Op = o }), false)
			}
			for _, a := range sampleAnswers() {
				wantWorldOk(t, "another Answer", worldWith(w, func(w *impl.World) { w.Replies[i].Legs[at].Answer = a }), true)
			}
			for _, a := range wrongAnswers() {
				wantWorldOk(t, "an Answer that is not AnswerOk", worldWith(w, func(w *impl.World) { w.Replies[i].Legs[at].Answer = a }), false)
			}
		}
		// Nothing is said of Code and Points.
		for _, code := range []int{math.MinInt, -1, 0, 4, 5, math.MaxInt} {
			wantWorldOk(t, "any Code", worldWith(w, func(w *impl.World) { w.Replies[i].Code = code }), true)
		}
		wantWorldOk(t, "any Points", worldWith(w, func(w *impl.World) { w.Replies[i].Points = pointsAt(9, 9, 3, 3, -1, 1<<60) }), true)
		wantWorldOk(t, "very many Points", worldWith(w, func(w *impl.World) { w.Replies[i].Points = make([]impl.Point, 1000) }), true)
		wantWorldOk(t, "zero", worldWith(w, func(w *impl.World) { w.Replies[i] = impl.Reply{} }), false)
		wantWorldOk(t, "a router that is not there", worldWith(w, func(w *impl.World) { w.Replies[i].Router, w.Routers = 4, nil }), true)
	}
}

func TestWorldOkOfNow(t *testing.T) {
	for _, w := range rightWorlds() {
		least := 0
		if len(w.Replies) > 0 {
			least = 60
		}
		for _, now := range []int{math.MinInt, -2, -1, 0, 1, 59, 60, 61, 999999, 1000000, 1000001, 1000002, 1 << 32, math.MaxInt} {
			wantWorldOk(t, fmt.Sprint("Now ", now), at(w, now), within(now, least, 1000000))
		}
	}
	far := worldWith(at(busyWorld(), 1000000), func(w *impl.World) { w.Replies[3].Begun, w.Replies[3].Ended = 1000000, 1000000 })
	wantWorldOk(t, "ended at the last time", far, true)
	wantWorldOk(t, "ended behind Now", at(far, 999999), false)
	wantWorldOk(t, "ended behind the last time", worldWith(at(far, 1000001), func(w *impl.World) { w.Replies[3].Ended = 1000001 }), false)
	wantWorldOk(t, "begun ahead of all times", worldWith(far, func(w *impl.World) { w.Replies[3].Begun, w.Replies[3].Ended = -2, -1 }), false)
	wantWorldOk(t, "all ahead of all times", impl.World{Crews: far.Crews, Replies: []impl.Reply{{Router: 1, Call: fourRead(), Begun: -2, Ended: -1}}, Now: -1}, false)
}

// worldFaults each make a world with routers and replies one that is not right.
func worldFaults() []func(w *impl.World) {
	return []func(w *impl.World){
		func(w *impl.World) { w.Crews = w.Crews[:min(len(w.Crews), 2)] }, func(w *impl.World) { w.Crews = slices.Repeat([]impl.Crew{freshCrew(3, 2)}, 4) }, func(w *impl.World) { w.Crews[0] = freshCrew(3, 2) }, func(w *impl.World) { w.Crews[1] = freshCrew(2, 2) }, func(w *impl.World) { w.Crews[0].Nodes = nil }, func(w *impl.World) { w.Crews[1].Ever = sameEntries(401, 1, "") },
		func(w *impl.World) { w.Routers = slices.Repeat([]impl.Router{restingRouter()}, 5) }, func(w *impl.World) { w.Routers[0].Id = 3 }, func(w *impl.World) { w.Routers[1].Serials = nil },
		func(w *impl.World) { w.Replies = slices.Repeat(someReplies()[:1], 201) }, func(w *impl.World) { w.Replies[0].Router = 5 }, func(w *impl.World) { w.Replies[1].Ended = 61 }, func(w *impl.World) { w.Replies[0].Begun = -1 }, func(w *impl.World) { w.Replies[1].Legs = make([]impl.Leg, 4) },
		func(w *impl.World) { w.Now = -1 }, func(w *impl.World) { w.Now = 1000001 }, func(w *impl.World) { w.Now = 5 },
	}
}

func TestWorldsWithSeveralFaults(t *testing.T) {
	for i, one := range worldFaults() {
		wantWorldOk(t, fmt.Sprint("fault ", i), worldWith(busyWorld(), one), false)
		for j, other := range worldFaults() {
			x := worldWith(worldWith(busyWorld(), one), other)
			wantWorldOk(t, fmt.Sprint("faults ", i, " and ", j), x, slowWorldOk(x))
			for _, last := range worldFaults()[14:] {
				wantWorldOk(t, fmt.Sprint("faults ", i, ", ", j, " and Now"), worldWith(x, last), false)
			}
		}
	}
}

func TestNewWorld(t *testing.T) {
	for _, peers := range []int{math.MinInt, -1, 0, 1, 2, 3, 4, 5, 6, 7, math.MaxInt} {
		for _, room := range []int{math.MinInt, -1, 0, 1, 23, 24, 25, 5000, 1048575, 1048576, 1048577, math.MaxInt} {
			for _, routers := range []int{math.MinInt, -2, -1, 0, 1, 2, 3, 4, 5, 6, math.MaxInt} {
				s := impl.Setup{Peers: peers, Room: room, Routers: routers}
				right := within(peers, 1, 5) && within(room, 24, 1048576) && within(routers, 0, 4)
				want, said := slowNewWorld(s)
				w, ok := impl.NewWorld(s)
				if ok != right || said != right || !sameWorld(w, want) {
					t.Fatalf("NewWorld(%v) = %v, %s", s, ok, worldAnswer{w: w})
				}
				if !right {
					if x, codes := impl.Play(s, []impl.Act{{}}); len(codes) != 0 || !sameWorld(x, impl.World{}) || !sameWorld(w, impl.World{}) {
						t.Fatalf("Play of %v = %s, %v", s, worldAnswer{w: x}, codes)
					}
				} else if room > 5000 {
					wantWorldOk(t, "new", w, true)
				}
			}
		}
	}
}

func TestANewWorld(t *testing.T) {
	w, ok := impl.NewWorld(impl.Setup{Peers: 3, Room: 777, Routers: 2})
	if !ok || len(w.Crews) != 3 || len(w.Routers) != 2 || len(w.Replies) != 0 || w.Now != 0 {
		t.Fatalf("%v, %s", ok, worldAnswer{w: w})
	}
	for group, c := range w.Crews {
		if len(c.Nodes) != 3 || len(c.Net) != 0 || len(c.Ever) != 0 || c.Split {
			t.Errorf("group %d: %s", group, crewAnswer{c: c})
		}
		for id, n := range c.Nodes {
			if n.Id != id || n.Peers != 3 || n.Kind != []int{1, 2, 2}[group] || !n.Up || n.Disk.Room != 777 {
				t.Errorf("node %d of group %d: %s", id, group, brief(n))
			}
		}
	}
	for i, r := range w.Routers {
		if !sameRouter(r, impl.Router{Id: i + 1, Serials: []int{0, 0, 0}}) {
			t.Errorf("router %d: %s", i, brief(r))
		}
	}
}

// What is none of the eleven kinds leaves all as it is, and Now, too.
func TestActsThatAreNone(t *testing.T) {
	for _, w := range rightWorlds() {
		for _, kind := range []int{math.MinInt, -11, -1, 0, 12, 13, 100, 1 << 32, 1<<32 + 1, math.MaxInt} {
			for _, g := range []int{-1, 0, 2, 3} {
				for _, a := range []int{-1, 0, 1, 9} {
					wantNoAct(t, "none of the eleven", w, impl.Act{Kind: kind, G: g, A: a, B: a, Call: fourRead()})
				}
			}
		}
		for kind := 1; kind <= 11; kind++ {
			if got := wantWorldWords(t, "one of the eleven", w, impl.Act{Kind: kind, Call: fourRead()}); (got.code == 1) != (w.Now == 1000000) {
				t.Fatalf("Kind %d at %d: %s", kind, w.Now, got)
			}
		}
	}
}

// At MaxNow nothing happens any more; one below it, all goes on as ever.
func TestActsAtTheLastTime(t *testing.T) {
	for _, w := range []impl.World{busyWorld(), freshWorld(3, 2), freshWorld(1, 0)} {
		for kind := -1; kind <= 13; kind++ {
			for g := -1; g <= 3; g++ {
				for _, x := range []int{-1, 0, 1, 2, 6, 99} {
					a := impl.Act{Kind: kind, G: g, A: x, B: 1, C: 1, D: 1, Call: fourRead()}
					wantNoAct(t, "at MaxNow", at(w, 1000000), a)
					plain := wantWorldWords(t, "one below it", at(w, 999999), a)
					if code := doneWorld(w, a).code; plain.code != code || (plain.w.Now == 1000000) != (code != 1) {
						t.Fatalf("%v one below MaxNow comes to %s, want the code %d", a, plain, code)
					}
				}
			}
		}
	}
	w := at(freshWorld(1, 1), 999999)
	w = wantWorld(t, "begun at the last time but one", w, impl.Act{Kind: impl.AcCall, Call: fourRead()}, worldAnswer{worldWith(at(w, 1000000), func(w *impl.World) {
		w.Routers[0] = impl.Router{Id: 1, Serials: []int{1, 0, 0}, Busy: true, Call: fourRead(), Begun: 999999, Todo: []impl.Todo{todo(0, routeOp(10, 400))}}
	}), 0})
	wantNoAct(t, "no more", w, impl.Act{Kind: impl.AcSend})
}

// Of several reasons the first one counts, and Now goes on by what that comes to.
func TestWorldDoReasons(t *testing.T) {
	w := busyWorld()
	bad := worldWith(w, func(w *impl.World) { w.Replies[0].Router = 0 })
	for _, a := range []impl.Act{{Kind: 0}, {Kind: 12, G: -1}, {Kind: impl.AcElect, G: 3}, {Kind: impl.AcFall, A: 9}, {Kind: impl.AcCall, A: -1}, {Kind: impl.AcSend, B: 9}} {
		wantWorld(t, "not right", bad, a, worldAnswer{code: 1})
		wantWorld(t, "not right, at MaxNow", at(bad, 1000000), a, worldAnswer{code: 1})
		wantNoAct(t, "right, at MaxNow", at(w, 1000000), a)
	}
	wantNoAct(t, "no kind, no group", w, impl.Act{Kind: 12, G: 3})
	wantNoAct(t, "no kind, no router", w, impl.Act{Kind: -1, A: 9})
	for kind := impl.AcElect; kind <= impl.AcTwice; kind++ {
		if kind != impl.AcFall && kind != impl.AcRise {
			wantRefusedIn(t, "no group, no node", w, impl.Act{Kind: kind, G: 3, A: 99}, 2)
			wantRefusedIn(t, "no group, and a message to a router", w, impl.Act{Kind: kind, G: -1, A: 6}, 2)
		}
		wantRefusedIn(t, "no node, or no message", w, impl.Act{Kind: kind, A: 99}, 2)
	}
	wantRefusedIn(t, "no router, no call", w, impl.Act{Kind: impl.AcCall, A: 3, Call: impl.Call{}}, 2)
	wantRefusedIn(t, "no router, a call", w, impl.Act{Kind: impl.AcCall, A: 3, Call: fourRead()}, 2)
	wantRefusedIn(t, "a router that is Busy, no call", w, impl.Act{Kind: impl.AcCall, A: 1, Call: impl.Call{}}, 3)
	wantRefusedIn(t, "no router, no server", w, impl.Act{Kind: impl.AcSend, A: -1, B: 3}, 2)
	wantRefusedIn(t, "a router at rest, no server", w, impl.Act{Kind: impl.AcSend, A: 0, B: 3}, 2)
	wantRefusedIn(t, "a router at rest", w, impl.Act{Kind: impl.AcSend, A: 0, B: 2}, 3)
}

// Of AcFall, AcRise, AcCall and AcSend the group is not looked at; nor is at any act what its kind does not name.
func TestWorldDoWithMoreThanActsName(t *testing.T) {
	w := busyWorld()
	for kind := -1; kind <= 13; kind++ {
		for _, x := range []int{-1, 0, 1, 2, 3, 6, 99} {
			plain := impl.Act{Kind: kind, G: 1, A: x, B: 1, C: 2, D: 1}
			if kind == impl.AcCall {
				plain.Call = fourRead()
			}
			want := wantWorldWords(t, "plain", w, plain)
			changed := func(name string, change func(a *impl.Act)) {
				t.Helper()
				a := plain
				change(&a)
				wantWorld(t, name, w, a, want)
			}
			for _, n := range []int{math.MinInt, -1, 0, 2, 3} {
				if slices.Contains([]int{-1, 0, impl.AcFall, impl.AcRise, impl.AcCall, impl.AcSend, 12, 13}, kind) {
					changed("another G", func(a *impl.Act) { a.G = n })
				}
				if kind != impl.AcFuel && kind != impl.AcSend {
					changed("another B", func(a *impl.Act) { a.B = n })
				}
				if kind != impl.AcFuel && kind != impl.AcFall {
					changed("another C and D", func(a *impl.Act) { a.C, a.D = n, n })
				}
			}
			if kind != impl.AcCall {
				for _, c := range append(wrongCalls()[:3], someCalls()[:3]...) {
					changed("another Call", func(a *impl.Act) { a.Call = c })
				}
			}
		}
	}
}

// Each kind of chapter 18 but falling and rising is done to the one group, with the code that CrewDo tells.
func TestActsInOneGroup(t *testing.T) {
	codes := map[int]int{}
	for _, w := range rightWorlds() {
		if w.Now == 1000000 {
			continue
		}
		for kind := impl.AcElect; kind <= impl.AcTwice; kind++ {
			if kind == impl.AcFall || kind == impl.AcRise {
				continue
			}
			for _, g := range []int{math.MinInt, -3, -2, -1, 3, 4, 5, 99, 1 << 32, math.MaxInt} {
				for _, x := range []int{-1, 0, 1, 6, 99} {
					wantRefusedIn(t, "there is no such group", w, impl.Act{Kind: kind, G: g, A: x, B: 1}, 2)
				}
			}
			for g := range 3 {
				c := w.Crews[g]
				for x := -2; x <= max(len(c.Nodes), len(c.Net))+1; x++ {
					a := impl.Act{Kind: kind, G: g, A: x, B: 2, C: 1, D: 5}
					got := wantWorldWords(t, "in a group", w, a)
					done, code := impl.CrewDo(c, a)
					codes[code]++
					if code == 3 {
						continue
					}
					want := worldWith(at(w, w.Now+1), func(w *impl.World) { w.Crews[g] = done })
					if !sameWorldAnswer(got, worldAnswer{want, code}) {
						t.Fatalf("%v of %s\n= %s\nwant %s", a, worldAnswer{w: w}, got, worldAnswer{want, code})
					}
				}
			}
		}
	}
	if codes[0] < 100 || codes[1] != 0 || codes[2] < 100 || codes[3] < 6 {
		t.Errorf("codes %v", codes)
	}
}

// A server falls and rises in all groups, whatever it is there: up in some, down in others, unable to rise in one.
func TestActsInAllGroups(t *testing.T) {
	for _, w := range []impl.World{freshWorld(1, 1), freshWorld(3, 2), freshWorld(5, 4), busyWorld()} {
		peers := len(w.Crews[0].Nodes)
		for id := -2; id <= peers+1; id++ {
			for ups := range 16 {
				x := worldWith(w, func(w *impl.World) {
					for g := range w.Crews {
						if ups>>g&1 == 0 && within(id, 0, peers-1) && w.Crews[g].Nodes[id].Up {
							w.Crews[g].Nodes[id] = downNode(w.Crews[g].Nodes[id])
						}
					}
					if ups >= 8 && within(id, 0, peers-1) && !w.Crews[ups%3].Nodes[id].Up {
						w.Crews[ups%3].Nodes[id].Disk, _ = impl.NewDisk(3)
					}
				})
				for _, kind := range []int{impl.AcFall, impl.AcRise} {
					a := impl.Act{Kind: kind, G: ups - 3, A: id, C: 1, D: 2}
					if !within(id, 0, peers-1) {
						wantRefusedIn(t, "there is no such server", x, a, 2)
						continue
					}
					want := at(copyWorld(x), x.Now+1)
					for g := range want.Crews {
						want.Crews[g], _ = impl.CrewDo(want.Crews[g], a)
					}
					wantWorld(t, "in all groups", x, a, worldAnswer{want, 0})
				}
			}
		}
	}
	w := freshWorld(2, 0)
	for step, up := range []bool{false, true, false} {
		w = wantWorldWords(t, "by turns", w, impl.Act{Kind: []int{impl.AcFall, impl.AcRise}[step%2], A: 1}).w
		for g, c := range w.Crews {
			if c.Nodes[1].Up != up || !c.Nodes[0].Up {
				t.Errorf("group %d behind step %d: %s", g, step, crewAnswer{c: c})
			}
		}
	}
}

// tellWorld has three servers; in group g is a message under way to each of the routers, and behind it one to a server; router 2 waits for what it is told.
func tellWorld(r impl.Router, g int, m impl.Msg) impl.World {
	w := at(freshWorld(3, 0), 50)
	w.Routers = inPlace(restingRouter(), r, restingRouter())
	w.Crews[g].Net = []impl.Msg{toldMsg(0, 11, 3, toldText), m, toldMsg(0, 14, 3, toldText), voteMsg(2, 0, 1, 0, 0)}
	return w
}

// withoutNet is the world one later, with a message of group g gone.
func withoutNet(w impl.World, g, i int) impl.World {
	return worldWith(at(w, w.Now+1), func(w *impl.World) { w.Crews[g].Net = slices.Delete(w.Crews[g].Net, i, i+1) })
}

func TestARouterIsTold(t *testing.T) {
	replied := 0
	for _, r := range busyRouters() {
		g := r.Todo[0].Group
		for _, answer := range []impl.Answer{{}, fourRoute(), {Index: 7, Mark: 60}, {Code: 2, Index: 9}, {Code: 4}, {Index: 8, Data: slowShowBlock(pointsAt(30, 3, 40, 4))}} {
			m := answerMsg(r, answer)
			w := tellWorld(r, g, m)
			// The time of the reply is that ahead of the act.
			next, y, done := impl.RouterHear(r, g, m, 50)
			want := withoutNet(w, g, 1)
			want.Routers[1] = next
			if done {
				want.Replies = []impl.Reply{y}
				replied++
			}
			got := wantWorld(t, "it waits for it", w, impl.Act{Kind: impl.AcDeliver, G: g, A: 1}, worldAnswer{want, 0})
			if done && (y.Ended != 50 || got.Replies[0].Ended != 50 || got.Now != 51) || sameRouter(got.Routers[1], r) {
				t.Fatalf("%s", worldAnswer{w: got})
			}
			for other := range 3 {
				if other != g {
					x := tellWorld(r, other, m)
					wantWorld(t, "of another group", x, impl.Act{Kind: impl.AcDeliver, G: other, A: 1}, worldAnswer{withoutNet(x, other, 1), 0})
				}
			}
			twice := worldWith(got, func(w *impl.World) { w.Crews[g].Net = append(w.Crews[g].Net, m) })
			wantWorld(t, "told twice", twice, impl.Act{Kind: impl.AcDeliver, G: g, A: 3}, worldAnswer{withoutNet(twice, g, 3), 0})
			wantWorld(t, "lost", w, impl.Act{Kind: impl.AcLose, G: g, A: 1}, worldAnswer{withoutNet(w, g, 1), 0})
		}
	}
	if replied < 20 {
		t.Errorf("%d replied", replied)
	}
}

func TestARouterIsToldWhatItDoesNotWaitFor(t *testing.T) {
	for _, r := range append(busyRouters(), restingRouter()) {
		g, serial := 0, 3
		if r.Busy {
			g = r.Todo[0].Group
			serial = r.Serials[g]
		}
		for by := -2; by <= 2; by++ {
			if by == 0 && r.Busy {
				continue
			}
			w := tellWorld(r, g, toldMsg(2, 12, serial+by, toldText))
			wantWorld(t, "another Serial", w, impl.Act{Kind: impl.AcDeliver, G: g, A: 1}, worldAnswer{withoutNet(w, g, 1), 0})
		}
		w := tellWorld(r, g, toldMsg(2, 12, serial, toldText))
		wantWorld(t, "to a router at rest", w, impl.Act{Kind: impl.AcDeliver, G: g}, worldAnswer{withoutNet(w, g, 0), 0})
		wantWorld(t, "to a router that is not there", w, impl.Act{Kind: impl.AcDeliver, G: g, A: 2}, worldAnswer{withoutNet(w, g, 2), 0})
		for routers := range 3 {
			x := worldWith(w, func(w *impl.World) { w.Routers = w.Routers[:routers] })
			for i := range 3 {
				got := wantWorldWords(t, "to a router that may be there", x, impl.Act{Kind: impl.AcDeliver, G: g, A: i})
				if want := withoutNet(x, g, i); (i >= routers || i != 1) && !sameWorldAnswer(got, worldAnswer{want, 0}) {
					t.Fatalf("%d routers, message %d: %s", routers, i, got)
				}
			}
		}
		got := wantWorldWords(t, "a message to a server", w, impl.Act{Kind: impl.AcDeliver, G: g, A: 3})
		if len(got.w.Crews[g].Net) != 4 || got.w.Crews[g].Net[3].Kind != impl.MsVoted || got.code != 0 {
			t.Fatalf("%s", got)
		}
	}
}

// By the words a router of a right world may have begun behind Now, too; what it replies then has ended ahead of its beginning, and is not right.
func TestARouterIsToldAheadOfItsBeginning(t *testing.T) {
	r := busyRouters()[9]
	for begun := 48; begun <= 52; begun++ {
		w := worldWith(tellWorld(r, 0, answerMsg(r, impl.Answer{Index: 7})), func(w *impl.World) { w.Routers[1].Begun = begun })
		wantWorldOk(t, "begun", w, true)
		got := wantWorldWords(t, "told", w, impl.Act{Kind: impl.AcDeliver, A: 1})
		if y := got.w.Replies[0]; got.code != 0 || y.Begun != begun || y.Ended != 50 {
			t.Fatalf("%s", got)
		}
		wantWorldOk(t, "replied", got.w, begun <= 50)
	}
}

// What is replied is kept as long as there is room; the router is at its end either way.
func TestRepliesComeToBeFull(t *testing.T) {
	r := busyRouters()[9]
	m := answerMsg(r, impl.Answer{Index: 7})
	for _, many := range []int{0, 1, 198, 199, 200} {
		w := tellWorld(r, 0, m)
		w.Replies = slices.Repeat([]impl.Reply{{Router: 4, Call: trimCall(3), Code: 2, Begun: 3, Ended: 50}}, many)
		_, y, done := impl.RouterHear(r, 0, m, 50)
		want := withoutNet(w, 0, 1)
		want.Routers[1] = impl.Router{Id: 2, Serials: []int{4, 5, 7}}
		if !done || y.Ended != 50 {
			t.Fatalf("%v, %s", done, brief(y))
		}
		if many < 200 {
			want.Replies = append(want.Replies, y)
		}
		w = wantWorld(t, fmt.Sprint(many, " replies"), w, impl.Act{Kind: impl.AcDeliver, A: 1}, worldAnswer{want, 0})
		if len(w.Replies) != min(many+1, 200) {
			t.Fatalf("%d replies behind %d", len(w.Replies), many)
		}
		w = wantWorldWords(t, "on and on", w, impl.Act{Kind: impl.AcCall, A: 1, Call: fourRead()}).w
		if !w.Routers[1].Busy || w.Routers[1].Begun != 51 {
			t.Fatalf("it takes no call: %s", worldAnswer{w: w})
		}
	}
}

// A message that goes to a router leaves Net, but nothing is remembered by that.
func TestWhatRoutersAreToldIsNotRemembered(t *testing.T) {
	w := worldWith(busyWorld(), func(w *impl.World) { w.Crews[0].Ever = everUpTo(7) })
	if to := w.Crews[0].Net[6].To; to != 12 {
		t.Fatalf("message 6 is to %d", to)
	}
	wantWorld(t, "to a router", w, impl.Act{Kind: impl.AcDeliver, A: 6}, worldAnswer{withoutNet(w, 0, 6), 0})
	for _, a := range []impl.Act{{Kind: impl.AcCall, Call: fourRead()}, {Kind: impl.AcSend, A: 2}, {Kind: impl.AcSend, A: 1}, {Kind: impl.AcElect, G: 1}, {Kind: impl.AcElect, A: 9}} {
		if got := wantWorldWords(t, "nor by this", w, a); len(got.w.Crews[0].Ever) != 7 {
			t.Fatalf("%v: %s", a, got)
		}
	}
	for _, a := range []impl.Act{stillAct(), {Kind: impl.AcFall, A: 0}, {Kind: impl.AcRise, A: 2}} {
		if got := wantWorldWords(t, "but by this", w, a); len(got.w.Crews[0].Ever) != 8 {
			t.Fatalf("%v: %s", a, got)
		}
	}
}

func TestCallsOfRouters(t *testing.T) {
	for routers := range 5 {
		w := at(freshWorld(2, routers), 77)
		for _, i := range []int{math.MinInt, -2, -1, 0, 1, 2, 3, 4, 5, 99, 1 << 32, math.MaxInt} {
			for _, c := range append(someCalls(), wrongCalls()...) {
				a := impl.Act{Kind: impl.AcCall, G: 9, A: i, B: -1, C: 5, D: 6, Call: c}
				switch {
				case !within(i, 0, routers-1):
					wantRefusedIn(t, "there is no such router", w, a, 2)
				case !slowCallOk(c):
					wantRefusedIn(t, "not CallOk", w, a, 3)
				default:
					want := worldWith(at(w, 78), func(w *impl.World) {
						w.Routers[i] = impl.Router{Id: i + 1, Serials: []int{1, 0, 0}, Busy: true, Call: c, Begun: 77, Todo: []impl.Todo{{Op: slowFirst(c)}}}
					})
					got := wantWorld(t, "begun", w, a, worldAnswer{want, 0})
					wantRefusedIn(t, "Busy", got, a, 3)
				}
			}
		}
	}
	for group := range 3 {
		w := worldWith(freshWorld(2, 2), func(w *impl.World) { w.Routers[1].Serials[group] = 1000000 })
		wantRefusedIn(t, "a Serial at MaxSerial", w, impl.Act{Kind: impl.AcCall, A: 1, Call: fourRead()}, 3)
	}
}

func TestWhatRoutersSend(t *testing.T) {
	for _, peers := range []int{1, 3, 5} {
		for _, r := range busyRouters() {
			w := at(freshWorld(peers, 0), 77)
			w.Routers = inPlace(restingRouter(), r)
			g := r.Todo[0].Group
			for _, i := range []int{math.MinInt, -1, 0, 1, 2, 3, math.MaxInt} {
				for _, to := range []int{math.MinInt, -1, 0, 1, 2, 3, 4, 5, 11, math.MaxInt} {
					a := impl.Act{Kind: impl.AcSend, G: to, A: i, B: to, Call: fourRead()}
					switch {
					case !within(i, 0, 1):
						wantRefusedIn(t, "there is no such router", w, a, 2)
					case !within(to, 0, peers-1):
						wantRefusedIn(t, "there is no such server", w, a, 2)
					case i == 0:
						wantRefusedIn(t, "at rest", w, a, 3)
					default:
						want := worldWith(at(w, 78), func(w *impl.World) {
							w.Crews[g].Net = []impl.Msg{callMsg(12, to, r.Serials[g], opText(r.Todo[0].Op))}
						})
						got := wantWorld(t, "sent", w, a, worldAnswer{want, 0})
						got = wantWorldWords(t, "sent again", got, a).w
						if len(got.Crews[g].Net) != 2 || !sameMsg(got.Crews[g].Net[0], got.Crews[g].Net[1]) {
							t.Fatalf("sent twice: %s", worldAnswer{w: got})
						}
					}
				}
			}
		}
	}
}

// Where Net has MaxNet messages what a router says is lost; the code is 0 all the same.
func TestWhatRoutersSendIsLost(t *testing.T) {
	for _, r := range busyRouters() {
		g := r.Todo[0].Group
		for _, many := range []int{0, 1, 148, 149, 150} {
			w := freshWorld(2, 0)
			w.Routers = inPlace(restingRouter(), r)
			w.Crews[g].Net = numberedNet(many, 0)
			w.Crews[(g+1)%3].Net = numberedNet(150-many, 0)
			want := at(copyWorld(w), 1)
			if many < 150 {
				want.Crews[g].Net = append(want.Crews[g].Net, callMsg(12, 1, r.Serials[g], opText(r.Todo[0].Op)))
			}
			wantWorld(t, fmt.Sprint(many, " under way"), w, impl.Act{Kind: impl.AcSend, A: 1, B: 1}, worldAnswer{want, 0})
		}
	}
}

// A worldHand does acts one behind the other, each as the words say.
type worldHand struct {
	t     *testing.T
	s     impl.Setup
	w     impl.World
	acts  []impl.Act
	codes []int
}

func newWorldHand(t *testing.T, s impl.Setup) *worldHand {
	w, ok := impl.NewWorld(s)
	if !ok {
		t.Fatalf("no world of %v", s)
	}
	return &worldHand{t: t, s: s, w: w}
}

// do wants each act to be done.
func (h *worldHand) do(acts ...impl.Act) {
	h.t.Helper()
	for _, a := range acts {
		got := wantWorldWords(h.t, fmt.Sprint("act ", len(h.acts)), h.w, a)
		if got.code != 0 {
			h.t.Fatalf("act %d, %v: %s", len(h.acts), a, got)
		}
		h.w, h.acts, h.codes = got.w, append(h.acts, a), append(h.codes, got.code)
	}
}

// wantNet wants this to be under way in the group.
func (h *worldHand) wantNet(g int, net ...impl.Msg) {
	h.t.Helper()
	if !slices.EqualFunc(h.w.Crews[g].Net, net, sameMsg) {
		h.t.Fatalf("behind act %d, %v, want under way\n%s\nin group %d of %s", len(h.acts)-1, h.acts[len(h.acts)-1], brief(net), g, worldAnswer{w: h.w})
	}
}

// wantReply wants this to be the last reply, and the many-th.
func (h *worldHand) wantReply(many int, want impl.Reply) {
	h.t.Helper()
	if len(h.w.Replies) != many || !sameReply(h.w.Replies[many-1], want) || h.w.Routers[want.Router-1].Busy {
		h.t.Fatalf("want reply %d: %s\n%s", many, brief(want), worldAnswer{w: h.w})
	}
}

// wantPlayed wants Play of the acts to tell the same, and Play of each beginning a beginning of it.
func (h *worldHand) wantPlayed() {
	h.t.Helper()
	for many := range len(h.acts) + 1 {
		w, codes := impl.Play(h.s, h.acts[:many])
		if !slices.Equal(codes, h.codes[:many]) {
			h.t.Fatalf("Play of %d acts: codes %v, want %v", many, codes, h.codes[:many])
		}
		wantGrown(h.t, fmt.Sprint("behind ", many, " acts"), w, h.w)
		if many == len(h.acts) && !sameWorld(w, h.w) {
			h.t.Fatalf("Play of all acts: %s\nwant %s", worldAnswer{w: w}, worldAnswer{w: h.w})
		}
	}
}

func act(kind, g, a int) impl.Act {
	return impl.Act{Kind: kind, G: g, A: a}
}

func callAct(router int, c impl.Call) impl.Act {
	return impl.Act{Kind: impl.AcCall, A: router, Call: c}
}

func sendAct(router, server int) impl.Act {
	return impl.Act{Kind: impl.AcSend, A: router, B: server}
}

// legOfOne has the router say what it waits for to the one server of group g, which tells it the answer.
func (h *worldHand) legOfOne(g, serial int, o impl.Op, a impl.Answer) {
	h.t.Helper()
	h.do(sendAct(0, 0))
	h.wantNet(g, callMsg(11, 0, serial, opText(o)))
	h.do(act(impl.AcDeliver, g, 0))
	h.wantNet(g, slowTold(0, 1, serial, a))
	ever := h.w.Crews[g].Ever
	if want := cmdEntry(1, 1, serial, o); len(ever) != a.Index || ever[a.Index-1] != want {
		h.t.Fatalf("want %s at %d: %s", brief(want), a.Index, worldAnswer{w: h.w})
	}
	h.do(act(impl.AcDeliver, g, 0))
	h.wantNet(g)
}

// Whole calls of each Kind in a world of one server, each answer written out.
func TestAWorldByHand(t *testing.T) {
	h := newWorldHand(t, impl.Setup{Peers: 1, Room: 90000, Routers: 1})
	h.do(act(impl.AcElect, 0, 0), act(impl.AcElect, 1, 0), act(impl.AcElect, 2, 0))
	block := slowShowBlock
	near, far := pointsAt(10, 1), pointsAt(120, 2, 130, -3, 399, 4)
	route := toldRoute(dealt(0, 0, 1, 1, 2, 0, 3, 1))

	h.do(callAct(0, fourWrite()))
	routed := leg(0, 1, routeOp(10, 400), impl.Answer{Index: 2, Data: route})
	h.legOfOne(0, 1, routed.Op, routed.Answer)
	h.legOfOne(1, 1, writeOp("cpu", near), impl.Answer{Index: 2})
	h.legOfOne(2, 1, writeOp("cpu", far), impl.Answer{Index: 2})
	h.wantReply(1, impl.Reply{Router: 1, Call: fourWrite(), Legs: []impl.Leg{routed, leg(1, 1, writeOp("cpu", near), impl.Answer{Index: 2}), leg(2, 1, writeOp("cpu", far), impl.Answer{Index: 2})}, Begun: 3, Ended: 12})

	h.do(callAct(0, fourRead()))
	legs := []impl.Leg{leg(0, 2, routeOp(10, 400), impl.Answer{Index: 3, Data: route}), leg(1, 2, readOp("cpu", 10, 400), impl.Answer{Index: 3, Data: block(near)}), leg(2, 2, readOp("cpu", 10, 400), impl.Answer{Index: 3, Data: block(far)})}
	for g, l := range legs {
		h.legOfOne(g, 2, l.Op, l.Answer)
	}
	h.wantReply(2, impl.Reply{Router: 1, Call: fourRead(), Points: fourPoints(), Legs: legs, Begun: 13, Ended: 22})

	h.do(callAct(0, holdCall(70)))
	h.legOfOne(0, 3, holdOp(70), impl.Answer{Index: 4})
	h.wantReply(3, impl.Reply{Router: 1, Call: holdCall(70), Legs: []impl.Leg{leg(0, 3, holdOp(70), impl.Answer{Index: 4})}, Begun: 23, Ended: 26})

	h.do(callAct(0, trimCall(200)))
	legs = []impl.Leg{leg(0, 4, markOp(200), impl.Answer{Index: 5, Mark: 130}), leg(1, 3, raiseOp(130), impl.Answer{Index: 4, Mark: 130}), leg(2, 3, raiseOp(130), impl.Answer{Index: 4, Mark: 130})}
	for g, l := range legs {
		h.legOfOne(g, l.Serial, l.Op, l.Answer)
	}
	h.wantReply(4, impl.Reply{Router: 1, Call: trimCall(200), Legs: legs, Begun: 27, Ended: 36})

	h.do(callAct(0, readCall("cpu", 0, 400)))
	legs = []impl.Leg{leg(0, 5, routeOp(0, 400), impl.Answer{Index: 6, Mark: 130, Data: toldRoute(dealt(1, 1, 2, 0, 3, 1))}), leg(1, 4, readOp("cpu", 0, 400), impl.Answer{Index: 5, Mark: 130}), leg(2, 4, readOp("cpu", 0, 400), impl.Answer{Index: 5, Mark: 130, Data: block(far[1:])})}
	for g, l := range legs {
		h.legOfOne(g, l.Serial, l.Op, l.Answer)
	}
	h.wantReply(5, impl.Reply{Router: 1, Call: readCall("cpu", 0, 400), Points: far[1:], Legs: legs, Begun: 37, Ended: 46})

	h.do(callAct(0, writeCall("cpu", pointsAt(129, 5))))
	late := leg(0, 6, routeOp(129, 130), impl.Answer{Index: 7, Mark: 130, Data: toldRoute(dealt(1, 1))})
	h.legOfOne(0, 6, late.Op, late.Answer)
	h.wantReply(6, impl.Reply{Router: 1, Call: writeCall("cpu", pointsAt(129, 5)), Code: impl.AnLate, Legs: []impl.Leg{late}, Begun: 47, Ended: 50})
	if h.w.Now != 51 || len(h.w.Replies) != 6 {
		t.Errorf("%s", worldAnswer{w: h.w})
	}
	h.wantPlayed()
}

// drain delivers all that is under way in the group, also what is said by that.
func (h *worldHand) drain(g int) {
	h.t.Helper()
	for len(h.w.Crews[g].Net) > 0 {
		h.do(act(impl.AcDeliver, g, 0))
	}
}

// ask has a router do a whole call, saying each thing to the server that leads.
func (h *worldHand) ask(router int, c impl.Call) impl.Reply {
	h.t.Helper()
	h.do(callAct(router, c))
	for h.w.Routers[router].Busy {
		g := h.w.Routers[router].Todo[0].Group
		lead := slices.IndexFunc(h.w.Crews[g].Nodes, func(n impl.Node) bool { return n.Up && n.Core.Role == impl.RlLead })
		h.do(sendAct(router, lead))
		h.drain(g)
	}
	return h.w.Replies[len(h.w.Replies)-1]
}

// Whole calls in worlds of more servers, which others lead; one server falls between them, another one rises.
func TestWorldsOfMoreServersByHand(t *testing.T) {
	for peers := 1; peers <= 5; peers++ {
		h := newWorldHand(t, impl.Setup{Peers: peers, Room: impl.MaxRoom, Routers: 4})
		elect := func(id int) {
			for g := range 3 {
				h.do(act(impl.AcElect, g, id))
				h.drain(g)
			}
		}
		last := peers - 1
		elect(last)
		if y := h.ask(1, fourWrite()); y.Code != 0 || len(y.Legs) != 3 || y.Router != 2 {
			t.Fatalf("%s", brief(y))
		}
		if peers > 2 {
			h.do(act(impl.AcFall, 0, last))
			elect(0)
		}
		if y := h.ask(2, fourRead()); y.Code != 0 || !slices.Equal(y.Points, fourPoints()) || len(y.Legs) != 3 || y.Router != 3 {
			t.Fatalf("%s", brief(y))
		}
		if y := h.ask(1, holdCall(20)); y.Code != 0 || len(y.Legs) != 1 {
			t.Fatalf("%s", brief(y))
		}
		if peers > 2 {
			h.do(act(impl.AcRise, 0, last), act(impl.AcFall, 0, 1))
		}
		if y := h.ask(0, trimCall(150)); y.Code != 0 || len(y.Legs) != 3 || y.Legs[2].Answer.Mark != 130 {
			t.Fatalf("%s", brief(y))
		}
		if y := h.ask(3, readCall("cpu", 0, 400)); y.Code != 0 || !slices.Equal(y.Points, fourPoints()[2:]) {
			t.Fatalf("%s", brief(y))
		}
		var b ledger
		b.look(t, "all done", h.w)
		if len(h.acts) <= impl.MaxActs {
			h.wantPlayed()
		}
	}
}

func TestPlay(t *testing.T) {
	s := impl.Setup{Peers: 2, Room: 5000, Routers: 1}
	empty, _ := impl.NewWorld(s)
	for _, acts := range [][]impl.Act{nil, {}} {
		if w, codes := impl.Play(s, acts); len(codes) != 0 || !sameWorld(w, empty) {
			t.Errorf("Play of no acts: %s, %v", worldAnswer{w: w}, codes)
		}
	}
	kinds := []impl.Act{{Kind: impl.AcElect}, {Kind: impl.AcDeliver}, {Kind: 0}, {Kind: impl.AcDeliver, A: 0}, {Kind: impl.AcBeat, G: 3}, callAct(0, fourRead()), callAct(0, fourRead()), {Kind: impl.AcSend, B: 0}, {Kind: impl.AcFall, A: 1}, {Kind: impl.AcRise, A: 1}, {Kind: 12}, {Kind: impl.AcSend, B: 2}}
	for _, many := range []int{1, 2, 12, 100, 138, 139, 140, 141, 142, 1000} {
		acts := slices.Repeat(kinds, 100)[:many]
		w, codes := impl.Play(s, acts)
		if many > 140 {
			if len(codes) != 0 || !sameWorld(w, impl.World{}) {
				t.Errorf("Play of %d acts: %s, %v", many, worldAnswer{w: w}, codes)
			}
			continue
		}
		want := worldAnswer{w: empty}
		var wantCodes []int
		for _, a := range acts {
			want = slowWorldDo(want.w, a)
			wantCodes = append(wantCodes, want.code)
		}
		if !slices.Equal(codes, wantCodes) || !sameWorld(w, want.w) {
			t.Errorf("Play of %d acts: %s, %v\nwant %s, %v", many, worldAnswer{w: w}, codes, want, wantCodes)
		}
		if many == 12 && (!slices.Equal(codes, []int{0, 0, 1, 0, 2, 0, 3, 0, 0, 0, 1, 2}) || w.Now != 10) {
			t.Errorf("codes %v, Now %d", codes, w.Now)
		}
	}
	for _, s := range []impl.Setup{{}, {Peers: 0, Room: 100}, {Peers: 6, Room: 100}, {Peers: 1, Room: 23}, {Peers: 1, Room: impl.MaxRoom + 1}, {Peers: 1, Room: 100, Routers: 5}, {Peers: 1, Room: 100, Routers: -1}} {
		for _, many := range []int{0, 1, 140, 141} {
			if w, codes := impl.Play(s, make([]impl.Act, many)); len(codes) != 0 || !sameWorld(w, impl.World{}) {
				t.Errorf("Play of %v: %s, %v", s, worldAnswer{w: w}, codes)
			}
		}
	}
}

// A ledger is what was ever agreed on and replied in a world, as it is seen from outside, and what that comes to.
type ledger struct {
	ever    [3][]impl.Entry
	states  [3][]impl.State
	leads   [3]map[int]int
	replies []impl.Reply
}

// slowFold is the state behind one more entry, with this number.
func slowFold(s impl.State, e impl.Entry, number int) impl.State {
	if x, ok := impl.ReadCmd(e.Data); ok {
		s, _, _ = impl.Serve(s, x.Client, x.Serial, x.Op, number)
	}
	return s
}

// write takes what the group agreed on since then.
func (b *ledger) write(g int, c impl.Crew) {
	if len(b.states[g]) == 0 {
		first, _ := impl.NewState(c.Nodes[0].Kind)
		b.states[g], b.leads[g] = []impl.State{first}, map[int]int{}
	}
	for number := len(b.ever[g]) + 1; number <= len(c.Ever); number++ {
		e := c.Ever[number-1]
		b.ever[g], b.states[g] = append(b.ever[g], e), append(b.states[g], slowFold(b.states[g][number-1], e, number))
	}
}

// look wants one log in each group, and all of it for ever.
func (b *ledger) look(t *testing.T, name string, w impl.World) {
	t.Helper()
	for g, c := range w.Crews {
		if c.Split || len(c.Ever) < len(b.ever[g]) || !slices.Equal(c.Ever[:len(b.ever[g])], b.ever[g]) {
			t.Fatalf("%s: group %d has two entries at one number, or has lost one: %s", name, g, worldAnswer{w: w})
		}
		b.write(g, c)
		for id, n := range c.Nodes {
			if n.Up {
				b.lookAt(t, fmt.Sprint(name, ": node ", id, " of group ", g), g, n)
			}
		}
	}
	if len(w.Replies) < len(b.replies) || !slices.EqualFunc(w.Replies[:len(b.replies)], b.replies, sameReply) {
		t.Fatalf("%s: what was replied is lost: %s", name, worldAnswer{w: w})
	}
	b.replies = w.Replies
}

// lookAt wants of a node that is up the entries and the state that all have, and its term to have one leader.
func (b *ledger) lookAt(t *testing.T, name string, g int, n impl.Node) {
	t.Helper()
	base, commit := n.Core.Base, n.Core.Commit
	if commit > len(b.ever[g]) || !slices.Equal(n.Core.Log[:commit-base], b.ever[g][base:commit]) {
		t.Fatalf("%s has agreed on what is not remembered: %s", name, brief(n))
	}
	if !sameState(n.State, b.states[g][commit]) {
		t.Fatalf("%s has the state %s\nwant %s", name, brief(n.State), brief(b.states[g][commit]))
	}
	if n.Core.Role != impl.RlLead {
		return
	}
	if other, led := b.leads[g][n.Core.Term]; led && other != n.Id {
		t.Fatalf("%s leads in term %d, as node %d does", name, n.Core.Term, other)
	}
	b.leads[g][n.Core.Term] = n.Id
}

// A worldRun is a script by chance: each act is drawn by what the world is then.
type worldRun struct {
	t     *testing.T
	r     *rand.Rand
	s     impl.Setup
	w     impl.World
	acts  []impl.Act
	codes []int
	book  ledger
	wild  int
	deaf  int
	came  map[string]int
}

func newWorldRun(t *testing.T, r *rand.Rand, s impl.Setup, wild int, came map[string]int) *worldRun {
	w, ok := impl.NewWorld(s)
	if !ok {
		t.Fatalf("no world of %v", s)
	}
	return &worldRun{t: t, r: r, s: s, w: w, wild: wild, deaf: -1, came: came}
}

// do has it happen, and looks at what it came to; now and then it is held against the words.
func (x *worldRun) do(a impl.Act) {
	x.t.Helper()
	var got worldAnswer
	if x.r.IntN(8) == 0 {
		got = wantWorldWords(x.t, "a run", x.w, a)
	} else {
		got = doneWorld(x.w, a)
		wantWorldPromise(x.t, "a run", x.w, got)
	}
	x.came[fmt.Sprint(a.Kind, " code ", got.code)]++
	for g, c := range got.w.Crews {
		for id, n := range c.Nodes {
			ahead := x.w.Crews[g].Nodes[id]
			if a.Kind == impl.AcDeliver && n.Up && ahead.Up && n.Core.Base > ahead.Core.Base {
				x.came["images"]++
			}
			if ahead.Up && !n.Up && a.Kind != impl.AcFall {
				x.came["fell"]++
			}
		}
	}
	x.w, x.acts, x.codes = got.w, append(x.acts, a), append(x.codes, got.code)
	x.book.look(x.t, "a run", x.w)
}

// lead is a server that leads a group, the one of the greatest term; -1 if there is none.
func (x *worldRun) lead(g int) int {
	lead, term := -1, 0
	for id, n := range x.w.Crews[g].Nodes {
		if n.Up && n.Core.Role == impl.RlLead && n.Core.Term > term {
			lead, term = id, n.Core.Term
		}
	}
	return lead
}

// runCall is a call in a book whose times go on; some are refused.
func (x *worldRun) runCall() impl.Call {
	r, now := x.r, 200+2*x.w.Now
	from, key, at := max(0, now-r.IntN(300)), pick(r, "a", "a", "a", "b"), map[int]int{}
	for range pick(r, 1, 2, 3, 6) {
		at[now-r.IntN(200)] = r.IntN(100)
	}
	write, read := writeCall(key, byTime(at, 0)), readCall(key, from, from+1+r.IntN(400))
	return pick(r, write, write, write, read, read, readCall(key, from, from+900), trimCall(max(0, now-100-r.IntN(200))), holdCall(r.IntN(100)), impl.Call{})
}

// wildAct is whatever may happen.
func (x *worldRun) wildAct() impl.Act {
	r := x.r
	g, id := pick(r, 0, 1, 2, 0, 1, 2, 0, 1, 2, r.IntN(5)-1), pick(r, r.IntN(x.s.Peers), r.IntN(x.s.Peers), r.IntN(x.s.Peers), r.IntN(7)-1)
	message := 0
	if within(g, 0, 2) {
		message = r.IntN(len(x.w.Crews[g].Net) + 1)
	}
	kind := pick(r, 1, 1, 2, 2, 3, 3, 4, 5, 6, 6, 7, 7, 8, 8, 9, 9, 10, 11, 11, r.IntN(14)-1)
	a := impl.Act{Kind: kind, G: g, A: id, B: r.IntN(12) - 1, C: r.IntN(4), D: pick(r, 0, r.IntN(60), 1048576)}
	switch kind {
	case impl.AcDeliver, impl.AcLose, impl.AcTwice:
		a.A = message
	case impl.AcCall:
		a = callAct(r.IntN(x.s.Routers+2)-1, x.runCall())
	case impl.AcSend:
		a = sendAct(r.IntN(x.s.Routers+2)-1, id)
	}
	return a
}

// heardOf is a message under way in the group by chance, mostly the first one, but none to or from the server that is deaf; -1 if there is none.
func (x *worldRun) heardOf(g int) int {
	var l []int
	for i, m := range x.w.Crews[g].Net {
		if m.From != x.deaf && m.To != x.deaf {
			l = append(l, i)
		}
	}
	if len(l) == 0 {
		return -1
	}
	return pick(x.r, l[0], l[0], l[0], pick(x.r, l...))
}

// goOn is an act that brings calls to their end: servers lead and are heard, routers call and say what they wait for.
func (x *worldRun) goOn() impl.Act {
	r, g := x.r, x.r.IntN(3)
	for id, n := range x.w.Crews[g].Nodes {
		if !n.Up && r.IntN(12) == 0 {
			return act(impl.AcRise, g, id)
		}
	}
	i := -1
	if x.s.Routers > 0 {
		i = r.IntN(x.s.Routers)
		if !x.w.Routers[i].Busy {
			return callAct(i, x.runCall())
		}
		g = x.w.Routers[i].Todo[0].Group
	}
	if at := x.heardOf(g); at >= 0 && r.IntN(16) > 0 {
		return act(impl.AcDeliver, g, at)
	}
	lead := x.lead(g)
	switch {
	case lead >= 0 && r.IntN(20) == 0:
		return act(impl.AcCompact, g, lead)
	case lead < 0 || lead == x.deaf:
		return act(impl.AcElect, g, pick(r, x.best(g), x.best(g), r.IntN(x.s.Peers)))
	case i < 0:
		return act(impl.AcBeat, g, lead)
	}
	return sendAct(i, pick(r, lead, lead, lead, lead, lead, r.IntN(x.s.Peers)))
}

// best is a server that is heard and whose log is none behind another one's.
func (x *worldRun) best(g int) int {
	best, last := 0, -1
	for id, n := range x.w.Crews[g].Nodes {
		if n.Up && id != x.deaf && slowLast(n.Core) > last {
			best, last = id, slowLast(n.Core)
		}
	}
	return best
}

func (x *worldRun) step() {
	x.t.Helper()
	if x.r.IntN(60) == 0 {
		x.deaf = pick(x.r, -1, -1, x.r.IntN(x.s.Peers))
	}
	if x.r.IntN(100) < x.wild {
		x.do(x.wildAct())
	} else {
		x.do(x.goOn())
	}
}

func someSetup(r *rand.Rand, run int) impl.Setup {
	return impl.Setup{Peers: []int{3, 3, 1, 2, 5, 3, 4}[run%7], Room: pick(r, impl.MaxRoom, impl.MaxRoom, impl.MaxRoom, 700, 2500), Routers: []int{2, 1, 4, 3, 2, 0}[run%6]}
}

// turnScript has the acts with some by chance gone, twice, later, or in the place of others.
func (x *worldRun) turnScript(acts []impl.Act) []impl.Act {
	acts = slices.Clone(acts)
	for range pick(x.r, 1, 2, 5, 20) {
		i, j := x.r.IntN(len(acts)), x.r.IntN(len(acts))
		switch x.r.IntN(4) {
		case 0:
			acts[i] = x.wildAct()
		case 1:
			acts[i], acts[j] = acts[j], acts[i]
		case 2:
			acts[i].A = max(0, acts[i].A+pick(x.r, -1, 1))
		case 3:
			a := acts[i]
			acts = slices.Insert(slices.Delete(acts, i, i+1), j, a)
		}
	}
	return acts
}

// wantBeginnings wants of what Play tells of the acts, and of beginnings of them, one log in each group, and the beginnings to be beginnings.
func wantBeginnings(t *testing.T, s impl.Setup, acts []impl.Act) impl.World {
	t.Helper()
	var b ledger
	var w impl.World
	for _, many := range []int{0, 40, 75, 110, len(acts)} {
		next, codes := impl.Play(s, acts[:many])
		if len(codes) != many || !impl.WorldOk(next) {
			t.Fatalf("Play of %d acts: %v, %s", many, codes, worldAnswer{w: next})
		}
		if many > 0 {
			wantGrown(t, "a beginning", w, next)
		}
		b.look(t, fmt.Sprint("behind ", many, " acts"), next)
		w = next
	}
	return w
}

// Scripts of MaxActs: what Play tells of them, and of their beginnings, is what the acts one by one come to.
func TestScriptsByChance(t *testing.T) {
	r := rand.New(rand.NewPCG(20, 1))
	came, ever, replies := map[string]int{}, 0, map[string]int{}
	count := func(w impl.World) {
		for _, c := range w.Crews {
			ever += len(c.Ever)
		}
		for _, y := range w.Replies {
			replies[fmt.Sprint("kind ", y.Call.Kind, " code ", y.Code)]++
		}
	}
	for run := range 84 {
		x := newWorldRun(t, r, someSetup(r, run), []int{0, 5, 20, 50}[run%4], came)
		var worlds []impl.World
		for range impl.MaxActs {
			worlds = append(worlds, x.w)
			x.step()
		}
		w, codes := impl.Play(x.s, x.acts)
		if !sameWorld(w, x.w) || !slices.Equal(codes, x.codes) {
			t.Fatalf("Play tells %s, %v\none by one %s, %v", worldAnswer{w: w}, codes, worldAnswer{w: x.w}, x.codes)
		}
		many := r.IntN(len(x.acts))
		w, codes = impl.Play(x.s, x.acts[:many])
		if !sameWorld(w, worlds[many]) || !slices.Equal(codes, x.codes[:many]) {
			t.Fatalf("Play of %d acts tells %s, %v\none by one %s, %v", many, worldAnswer{w: w}, codes, worldAnswer{w: worlds[many]}, x.codes[:many])
		}
		count(x.w)
		for range 6 {
			count(wantBeginnings(t, x.s, x.turnScript(x.acts)))
		}
	}
	wantCame(t, came)
	if ever < 3000 {
		t.Errorf("%d entries were agreed on", ever)
	}
	for way, least := range map[string]int{"kind 1 code 0": 150, "kind 2 code 0": 100, "kind 3 code 0": 40, "kind 4 code 0": 100, "kind 1 code 2": 5, "kind 2 code 1": 50} {
		if replies[way] < least {
			t.Errorf("%s: %d replies of %v", way, replies[way], replies)
		}
	}
}

// wantCame wants each kind to have been done, and refused in each way that it may be.
func wantCame(t *testing.T, came map[string]int) {
	t.Helper()
	for kind := 1; kind <= 11; kind++ {
		for code, least := range []int{40, 0, 5} {
			if way := fmt.Sprint(kind, " code ", code); came[way] < least {
				t.Errorf("Kind %d, code %d: %d times", kind, code, came[way])
			}
		}
	}
	for way, least := range map[string]int{"10 code 3": 5, "11 code 3": 2, "0 code 1": 1, "12 code 1": 1, "fell": 10, "images": 1} {
		if came[way] < least {
			t.Errorf("%s: %d times of %v", way, came[way], came)
		}
	}
}

// Acts far beyond MaxActs, one by one: one log, and all of it for ever, as long as Ever has room.
func TestWorldsThatGoOn(t *testing.T) {
	r := rand.New(rand.NewPCG(20, 2))
	came, replies, ever := map[string]int{}, 0, 0
	for run := range 12 {
		x := newWorldRun(t, r, someSetup(r, run), []int{5, 15, 35}[run%3], came)
		for range 600 {
			x.step()
		}
		replies += len(x.w.Replies)
		for g := range 3 {
			ever = max(ever, len(x.w.Crews[g].Ever))
		}
	}
	if replies < 80 || ever < 30 || came["images"] < 5 || ever >= impl.MaxEver {
		t.Errorf("%d replies, %d entries, %v", replies, ever, came)
	}
}

// someReply is right by chance, ended at now at the latest.
func someReply(r *rand.Rand, now int) impl.Reply {
	x := rightRouter(r)
	ended := r.IntN(now + 1)
	y := impl.Reply{Router: 1 + r.IntN(4), Call: nearCall(r), Code: r.IntN(6), Legs: x.Legs, Begun: r.IntN(ended + 1), Ended: pick(r, ended, now)}
	if r.IntN(3) == 0 {
		y.Points = nearPoints(r)
	}
	return y
}

// rightWorld is a right world by chance; most of its routers are told something.
func rightWorld(r *rand.Rand) impl.World {
	peers := 1 + r.IntN(5)
	w := impl.World{Crews: []impl.Crew{crewOf(r, peers, 1), crewOf(r, peers, 2), crewOf(r, peers, 2)}, Now: pick(r, 0, 60, 60, 60, r.IntN(1000001), r.IntN(1000001), r.IntN(1000001), 999999, 1000000)}
	for range pick(r, 0, 1, 2, 3, 4, 4) {
		w.Routers = append(w.Routers, rightRouter(r))
	}
	for i := range inPlace(w.Routers...) {
		group, m, _ := nearHeard(r, w.Routers[i])
		m.From = min(m.From, peers-1)
		if within(group, 0, 2) && slowMsgOk(m) && len(w.Crews[group].Net) < 150 && (m.To > 10 || m.To < peers) {
			net := w.Crews[group].Net
			w.Crews[group].Net = slices.Insert(net, r.IntN(min(len(net), 3)+1), m)
		}
	}
	for range pick(r, 0, 1, 3, 199, 200) {
		if many := len(w.Replies); many > 5 {
			w.Replies = append(w.Replies, w.Replies[many-5])
		} else {
			w.Replies = append(w.Replies, someReply(r, w.Now))
		}
	}
	return w
}

// someWorldAct is an act by chance, often what goes to a router.
func someWorldAct(r *rand.Rand, w impl.World) impl.Act {
	g, router := r.IntN(3), r.IntN(max(1, len(w.Routers)))
	c := w.Crews[g]
	router = pick(r, router, router, router, r.IntN(7)-1)
	a := impl.Act{Kind: 1 + r.IntN(9), A: r.IntN(len(c.Nodes) + 1), B: r.IntN(14) - 1, C: r.IntN(5) - 1, D: pick(r, 0, r.IntN(60), 1048576)}
	if a.Kind >= impl.AcDeliver {
		a.A = r.IntN(len(c.Net) + 1)
	}
	switch r.IntN(13) {
	case 0, 1:
		a = callAct(router, pick(r, nearCall(r), nearCall(r), nearCall(r), impl.Call{Kind: r.IntN(6)}))
	case 2, 3:
		a = sendAct(router, pick(r, 0, r.IntN(len(c.Nodes)), r.IntN(7)-1))
	case 4, 5, 6, 8:
		a = act(impl.AcDeliver, 0, slices.IndexFunc(c.Net, func(m impl.Msg) bool { return m.Kind == impl.MsTold }))
	case 7:
		a.Kind = pick(r, -1, 0, 12, 13)
	}
	a.G = pick(r, g, g, g, g, g, g, g, r.IntN(5)-1)
	return a
}

func TestWorldsByChance(t *testing.T) {
	r := rand.New(rand.NewPCG(20, 3))
	came := map[string]int{}
	for range 900 {
		w := rightWorld(r)
		if r.IntN(4) == 0 {
			wantWorldOk(t, "by chance", w, true)
		}
		a := someWorldAct(r, w)
		got := wantWorldWords(t, "by chance", w, a)
		came[fmt.Sprint(a.Kind, " code ", got.code)]++
		if len(got.w.Replies) > len(w.Replies) {
			came["replied"]++
		}
	}
	for kind := 1; kind <= 11; kind++ {
		if came[fmt.Sprint(kind, " code 0")] < 5 || came[fmt.Sprint(kind, " code 2")] < 3 || came[fmt.Sprint(kind, " code 1")] < 1 {
			t.Errorf("Kind %d: %v", kind, came)
		}
	}
	if came["replied"] < 25 || came["10 code 3"] < 20 || came["11 code 3"] < 5 || came["7 code 3"] > 0 {
		t.Errorf("%v", came)
	}
}

// turnWorld puts something by chance, often at an edge, in the place of a part.
func turnWorld(r *rand.Rand, w *impl.World) {
	switch r.IntN(9) {
	case 0, 1:
		turnCrew(r, &w.Crews[r.IntN(len(w.Crews))])
	case 2:
		g := r.IntN(len(w.Crews))
		w.Crews[g] = crewOf(r, pick(r, len(w.Crews[g].Nodes), 1+r.IntN(5)), 1+r.IntN(2))
	case 3:
		if len(w.Routers) > 0 {
			turnRouter(r, &w.Routers[r.IntN(len(w.Routers))])
		}
	case 4:
		w.Routers = append(w.Routers, routerWith(rightRouter(r), func(x *impl.Router) { x.Id = len(w.Routers) + pick(r, 0, 1, 1, 1, 2) }))
	case 5:
		w.Replies = slices.Repeat([]impl.Reply{someReply(r, max(0, w.Now))}, pick(r, 0, 1, 199, 200, 201))
	case 6:
		y := someReply(r, max(0, w.Now))
		y.Router, y.Begun, y.Ended = r.IntN(7)-1, y.Begun-r.IntN(2), y.Ended+r.IntN(2)
		w.Replies = append(w.Replies, y)
	case 7:
		w.Now = pick(r, -1, 0, 1, 60, 999999, 1000000, 1000001)
	case 8:
		w.Crews = pick(r, w.Crews[:len(w.Crews)/2+1], append(w.Crews, w.Crews[len(w.Crews)-1]), w.Crews)
	}
}

func TestTurnedWorlds(t *testing.T) {
	r := rand.New(rand.NewPCG(20, 4))
	right, not := 0, 0
	for range 700 {
		w := rightWorld(r)
		for range pick(r, 1, 1, 1, 2) {
			turnWorld(r, &w)
		}
		ok := slowWorldOk(w)
		wantWorldOk(t, "turned", w, ok)
		if ok {
			right++
		} else {
			not++
		}
	}
	if right < 100 || not < 200 {
		t.Errorf("%d right, %d not", right, not)
	}
}

// spareReply has room behind each list, and texts of its own.
func spareReply(y impl.Reply) impl.Reply {
	legs := spareRouter(impl.Router{Call: y.Call, Legs: y.Legs})
	y.Call, y.Legs = legs.Call, legs.Legs
	y.Points = append(slices.Clone(y.Points), impl.Point{T: 77}, impl.Point{T: 78})[:len(y.Points)]
	return y
}

// spareWorld is the world with room behind each list, what stands there, and texts of its own.
func spareWorld(w impl.World) impl.World {
	x := impl.World{Now: w.Now}
	for _, c := range append(slices.Clone(w.Crews), impl.Crew{Split: true}, impl.Crew{}) {
		x.Crews = append(x.Crews, spareCrew(c))
	}
	for _, r := range append(slices.Clone(w.Routers), impl.Router{Id: 77}, impl.Router{Id: 78}) {
		x.Routers = append(x.Routers, spareRouter(r))
	}
	for _, y := range append(slices.Clone(w.Replies), impl.Reply{Router: 77}, impl.Reply{Router: 78}) {
		x.Replies = append(x.Replies, spareReply(y))
	}
	x.Crews, x.Routers, x.Replies = x.Crews[:len(w.Crews)], x.Routers[:len(w.Routers)], x.Replies[:len(w.Replies)]
	return x
}

// sameWorldWithRoom asks whether the world, and what stands behind its lists, are as spareWorld made them.
func sameWorldWithRoom(a, b impl.World) bool {
	all := func(w impl.World) impl.World {
		w.Crews, w.Routers, w.Replies = w.Crews[:len(w.Crews)+2], w.Routers[:len(w.Routers)+2], w.Replies[:len(w.Replies)+2]
		return w
	}
	a, b = all(a), all(b)
	replies := func(a, b impl.Reply) bool {
		return sameReply(a, b) && slices.Equal(a.Points[:len(a.Points)+2], b.Points[:len(b.Points)+2]) && slices.Equal(a.Legs[:len(a.Legs)+2], b.Legs[:len(b.Legs)+2])
	}
	return slices.EqualFunc(a.Crews, b.Crews, sameCrewWithRoom) && slices.EqualFunc(a.Routers, b.Routers, sameRouterWithRoom) && slices.EqualFunc(a.Replies, b.Replies, replies) && a.Now == b.Now
}

func textsInWorld(w impl.World) []string {
	var l []string
	for _, c := range w.Crews {
		l = append(l, textsInCrew(c)...)
	}
	for _, r := range w.Routers {
		l = append(l, textsInRouter(r)...)
	}
	for _, y := range w.Replies {
		l = append(l, slices.Concat(textsInCall(y.Call), textsInLegs(y.Legs))...)
	}
	return l
}

// worldSpoilers each write over one list of the world; those in which others stand come last.
func worldSpoilers(w impl.World) []func() {
	var l []func()
	for _, c := range w.Crews {
		l = append(l, crewSpoilers(c)...)
	}
	for _, r := range w.Routers {
		l = append(l, heardSpoilers(heard{r: r})...)
	}
	for _, y := range w.Replies {
		l = append(l, heardSpoilers(heard{y: y})...)
	}
	return append(l, func() { wipe(w.Crews, impl.Crew{Split: true}) }, func() { wipe(w.Routers, impl.Router{Id: 99}) }, func() { wipe(w.Replies, impl.Reply{Router: 99}) })
}

// worldLists are the same lists, each as a text.
func worldLists(w impl.World) []string {
	var l, splits, ids, codes []string
	for _, c := range w.Crews {
		l, splits = append(l, crewLists(c)...), append(splits, fmt.Sprint(len(c.Nodes), len(c.Net), c.Split))
	}
	for _, r := range w.Routers {
		l, ids = append(l, heardLists(heard{r: r})...), append(ids, fmt.Sprint(r.Id, r.Busy, r.Call, r.Begun))
	}
	for _, y := range w.Replies {
		l, codes = append(l, heardLists(heard{y: y})...), append(codes, fmt.Sprint(y.Router, y.Call, y.Code, y.Begun, y.Ended))
	}
	return append(l, fmt.Sprint(splits), fmt.Sprint(ids), fmt.Sprint(codes))
}

// wantWorldApart wants no list of the answer, which it writes over, to share memory with another one of it, and no text with another text.
func wantWorldApart(t *testing.T, name string, w impl.World) {
	t.Helper()
	texts := textsInWorld(w)
	for i, text := range texts {
		wantNewTexts(t, name, []string{text}, texts[:i])
	}
	ahead, spoilers := worldLists(w), worldSpoilers(w)
	if len(ahead) != len(spoilers) {
		t.Fatalf("%s: %d lists, %d are written over", name, len(ahead), len(spoilers))
	}
	for i, spoil := range spoilers {
		// Once the crews are written over, there are no lists in them any more.
		now := worldLists(w)
		if now[len(now)-len(ahead)+i] != ahead[i] {
			t.Fatalf("%s: list %d of the answer shares memory with one ahead of it", name, i)
		}
		spoil()
	}
}

// wantWorldMemory wants what do answers of a world to be new memory, twice, and nothing to be written into the world.
func wantWorldMemory(t *testing.T, name string, w impl.World, others []string, do func(w impl.World) worldAnswer) {
	t.Helper()
	x, ahead, want := spareWorld(w), spareWorld(w), do(copyWorld(w))
	first, second := do(x), do(x)
	wantNewTexts(t, name, textsInWorld(first.w), slices.Concat(textsInWorld(second.w), textsInWorld(x), others))
	for _, spoil := range worldSpoilers(second.w) {
		spoil()
	}
	if !sameWorldWithRoom(x, ahead) {
		t.Fatalf("%s wrote into %s\nor its answer is part of it: %s", name, worldAnswer{w: w}, worldAnswer{w: x})
	}
	for _, spoil := range worldSpoilers(x) {
		spoil()
	}
	if !sameWorldAnswer(first, want) {
		t.Fatalf("%s of %s\nhangs on its argument, or on another answer: %s", name, worldAnswer{w: w}, first)
	}
	wantWorldApart(t, name, do(spareWorld(w)).w)
}

// memoryWorlds hand back all kinds of lists; in each group a router is told what it waits for, and some are not right.
func memoryWorlds() []impl.World {
	ends := worldWith(busyWorld(), func(w *impl.World) {
		w.Routers = inPlace(busyRouters()[5], busyRouters()[1], busyRouters()[9])
		for i, r := range w.Routers {
			g := r.Todo[0].Group
			w.Crews[g].Net = slices.Insert(w.Crews[g].Net, 0, answerMsg(r, impl.Answer{Index: 4 + i, Data: slowShowBlock(pointsAt(30, 3, 40, 4))}))
		}
	})
	wrong := worldWith(busyWorld(), func(w *impl.World) { w.Routers[1].Id = 3 })
	return []impl.World{ends, tellWorld(busyRouters()[0], 0, answerMsg(busyRouters()[0], fourRoute())), at(busyWorld(), 1000000), freshWorld(3, 4), wrong, {}}
}

func memoryWorldActs(w impl.World) []impl.Act {
	l := []impl.Act{{}, {Kind: impl.AcElect, G: 3}, {Kind: impl.AcFall, A: 9}, sendAct(0, 9), sendAct(9, 0), callAct(9, fourRead()), callAct(0, impl.Call{})}
	for i := range 3 {
		l = append(l, impl.Act{Kind: impl.AcFall, A: i, D: 9}, act(impl.AcRise, 0, i), callAct(i, fourWrite()), sendAct(i, 1), act(impl.AcBeat, i, 1), act(impl.AcCompact, i, 1), act(impl.AcDeliver, i, 0), act(impl.AcDeliver, i, 1), act(impl.AcLose, i, 0), act(impl.AcTwice, i, 0))
	}
	return l
}

func TestWorldAnswersNewMemory(t *testing.T) {
	for i, w := range memoryWorlds() {
		for _, a := range memoryWorldActs(w) {
			a.Call.Key, a.Call.Data = strings.Clone(a.Call.Key), strings.Clone(a.Call.Data)
			name := fmt.Sprint("an act of kind ", a.Kind, " on world ", i)
			wantWorldMemory(t, name, w, textsInCall(a.Call), func(w impl.World) worldAnswer { return doneWorld(w, a) })
		}
	}
	s := impl.Setup{Peers: 2, Room: 5000, Routers: 3}
	one, _ := impl.NewWorld(s)
	other, _ := impl.NewWorld(s)
	wantNewTexts(t, "NewWorld", textsInWorld(one), textsInWorld(other))
	wantWorldApart(t, "NewWorld", other)
	if again, _ := impl.NewWorld(s); !sameWorld(one, again) {
		t.Errorf("NewWorld hangs on another answer: %s", worldAnswer{w: one})
	}
}

func TestPlayAnswersNewMemory(t *testing.T) {
	h := newWorldHand(t, impl.Setup{Peers: 2, Room: 50000, Routers: 2})
	for g := range 3 {
		h.do(act(impl.AcElect, g, 0))
		h.drain(g)
	}
	h.ask(0, fourWrite())
	h.do(act(impl.AcCompact, 1, 0))
	h.ask(1, fourRead())
	h.do(callAct(0, fourWrite()), sendAct(0, 0), act(impl.AcTwice, 0, 0))
	acts := append(slices.Clone(h.acts), impl.Act{Kind: 77}, impl.Act{Kind: 78})[:len(h.acts)]
	for i := range acts {
		acts[i].Call.Key, acts[i].Call.Data = strings.Clone(acts[i].Call.Key), strings.Clone(acts[i].Call.Data)
	}
	ahead := slices.Clone(acts[:len(acts)+2])
	first, codes := impl.Play(h.s, acts)
	second, more := impl.Play(h.s, acts)
	var texts []string
	for _, a := range acts {
		texts = append(texts, textsInCall(a.Call)...)
	}
	wantNewTexts(t, "Play", textsInWorld(first), append(textsInWorld(second), texts...))
	wipe(more, 99)
	wantWorldApart(t, "Play", second)
	if !slices.Equal(acts[:len(acts)+2], ahead) {
		t.Errorf("Play wrote into the acts")
	}
	wipe(acts, impl.Act{Kind: 99})
	if !sameWorld(first, h.w) || !slices.Equal(codes, h.codes) {
		t.Errorf("Play hangs on its argument, or on another answer: %s, %v", worldAnswer{w: first}, codes)
	}
}

// Nothing is kept from one call to another: what is asked again is answered again.
func TestWorldsAreAskedAgain(t *testing.T) {
	r := rand.New(rand.NewPCG(20, 5))
	for range 150 {
		w := rightWorld(r)
		a := someWorldAct(r, w)
		first := doneWorld(w, a)
		other := rightWorld(r)
		doneWorld(other, someWorldAct(r, other))
		if again := doneWorld(w, a); !sameWorldAnswer(first, again) {
			t.Fatalf("%v of %s\n= %s\nand then %s", a, worldAnswer{w: w}, first, again)
		}
	}
}

func TestWorldsAnswerAtEveryArgument(t *testing.T) {
	long := strings.Repeat("a", 100000)
	numbers := []int{math.MinInt, -1, 0, 1, math.MaxInt}
	for _, w := range memoryWorlds() {
		for _, i := range numbers {
			for kind := -1; kind <= 13; kind++ {
				wantWorldWords(t, "anywhere", w, impl.Act{Kind: kind, G: i, A: i, B: i, C: i, D: i, Call: impl.Call{Kind: i, Key: long, From: i, To: i, Data: long}})
				wantWorldWords(t, "anywhere", w, impl.Act{Kind: kind, G: 1, A: i, B: i, C: i, D: i, Call: fourRead()})
				wantWorldWords(t, "anywhere", w, impl.Act{Kind: kind, B: i, C: i, D: i})
			}
			wantWorldWords(t, "anywhere", w, impl.Act{Kind: i, A: i})
			wantWorldOk(t, "far too many routers", worldWith(w, func(w *impl.World) { w.Routers = make([]impl.Router, 100000) }), false)
			wantWorldOk(t, "far too many replies", worldWith(w, func(w *impl.World) { w.Replies = make([]impl.Reply, 100000) }), false)
			wantWorldOk(t, "far too many crews", worldWith(w, func(w *impl.World) { w.Crews = make([]impl.Crew, 100000) }), false)
			far := impl.Reply{Router: i, Call: impl.Call{Kind: i, Key: long}, Code: i, Points: []impl.Point{{T: i, V: i}}, Legs: []impl.Leg{leg(i, i, impl.Op{Kind: i}, impl.Answer{Code: i})}, Begun: i, Ended: i}
			wantWorldOk(t, "a far reply", worldWith(w, func(w *impl.World) { w.Replies = append(w.Replies, far) }), false)
		}
	}
	for _, i := range numbers {
		for _, j := range numbers {
			for _, k := range numbers {
				s := impl.Setup{Peers: i, Room: j, Routers: k}
				want, ok := slowNewWorld(s)
				w, got := impl.NewWorld(s)
				x, codes := impl.Play(s, make([]impl.Act, 3))
				if got != ok || !sameWorld(w, want) || !sameWorld(x, want) || len(codes) > 3 {
					t.Fatalf("NewWorld(%v) = %v, %s", s, got, worldAnswer{w: w})
				}
			}
		}
	}
	if w, codes := impl.Play(impl.Setup{Peers: 3, Room: 90000}, make([]impl.Act, 1000000)); len(codes) > 0 || !sameWorld(w, impl.World{}) {
		t.Errorf("far too many acts: %s", worldAnswer{w: w})
	}
}
