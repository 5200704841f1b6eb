package tests

import (
	"fmt"
	"math"
	"math/rand/v2"
	"runtime"
	"slices"
	"strings"
	"sync"
	"testing"

	"loop.example/g00360/impl"
)

// Promise 19: a right crew stays right; Ever only grows.

// The slow functions do the document's words step by step, to be held against the program.

func slowCrewOk(c impl.Crew) bool {
	if !within(len(c.Nodes), 1, 5) || len(c.Net) > 150 || len(c.Ever) > 400 {
		return false
	}
	for i, n := range c.Nodes {
		if n.Id != i || n.Peers != len(c.Nodes) || n.Kind != c.Nodes[0].Kind || !slowNodeOk(n) {
			return false
		}
	}
	for _, m := range c.Net {
		for _, address := range []int{m.From, m.To} {
			if address < 10 && address >= len(c.Nodes) {
				return false
			}
		}
		if !slowMsgOk(m) {
			return false
		}
	}
	for _, e := range c.Ever {
		if len(e.Data) > 900 || e.Term < 1 || e.Term > 100000 {
			return false
		}
	}
	return true
}

// slowSent puts messages behind Net, one by one.
func slowSent(c impl.Crew, said []impl.Msg) impl.Crew {
	for _, m := range said {
		if len(c.Net) == 150 {
			return c
		}
		c.Net = append(slices.Clone(c.Net), m)
	}
	return c
}

func slowWithoutMsg(c impl.Crew, at int) impl.Crew {
	c.Net = append(slices.Clone(c.Net[:at]), c.Net[at+1:]...)
	return c
}

// slowHappens has it happen to the node, and sends what that says.
func slowHappens(c impl.Crew, id int, call nodeCall) impl.Crew {
	got := call.slow(copyNode(c.Nodes[id]))
	c.Nodes[id] = got.n
	return slowSent(c, got.said)
}

// slowRemembered goes through the numbers twice: once for what is new, once for what differs.
func slowRemembered(c impl.Crew) impl.Crew {
	for _, n := range c.Nodes {
		if !n.Up {
			continue
		}
		entry := func(number int) impl.Entry { return n.Core.Log[number-n.Core.Base-1] }
		if n.Core.Base > len(c.Ever) {
			c.Split = true
			continue
		}
		for number := len(c.Ever) + 1; number <= n.Core.Commit && number <= 400; number++ {
			c.Ever = append(slices.Clone(c.Ever), entry(number))
		}
		for number := n.Core.Base + 1; number <= min(n.Core.Commit, len(c.Ever)); number++ {
			if one, other := entry(number), c.Ever[number-1]; one.Term != other.Term || one.Data != other.Data {
				c.Split = true
			}
		}
	}
	return c
}

// actCall is what an act that needs no message does to a node.
func actCall(a impl.Act) nodeCall {
	return []func() nodeCall{nodeElectCall, nodeBeatCall, nodeCompactCall, func() nodeCall { return fuelCall(a.B, a.C, a.D) }, func() nodeCall { return fallCall(a.C, a.D) }, riseCall}[a.Kind-1]()
}

func slowCrewDo(c impl.Crew, a impl.Act) crewAnswer {
	if !slowCrewOk(c) {
		return crewAnswer{code: 1}
	}
	c = copyCrew(c)
	switch {
	case a.Kind < 1 || a.Kind > 9:
		return crewAnswer{c, 1}
	case a.Kind <= 6 && (a.A < 0 || a.A >= len(c.Nodes)), a.Kind > 6 && (a.A < 0 || a.A >= len(c.Net)):
		return crewAnswer{c, 2}
	case a.Kind == 7 && c.Net[a.A].Kind == 7:
		return crewAnswer{c, 3}
	case a.Kind == 7:
		m := c.Net[a.A]
		c = slowHappens(slowWithoutMsg(c, a.A), m.To, nodeHearCall(m))
	case a.Kind == 8:
		c = slowWithoutMsg(c, a.A)
	case a.Kind == 9:
		c = slowSent(c, c.Net[a.A:a.A+1])
	default:
		c = slowHappens(c, a.A, actCall(a))
	}
	return crewAnswer{slowRemembered(c), 0}
}

// A crewAnswer is what CrewDo answers.
type crewAnswer struct {
	c    impl.Crew
	code int
}

func copyCrew(c impl.Crew) impl.Crew {
	c.Nodes, c.Net, c.Ever = slices.Clone(c.Nodes), slices.Clone(c.Net), slices.Clone(c.Ever)
	for i := range c.Nodes {
		c.Nodes[i] = copyNode(c.Nodes[i])
	}
	for i := range c.Net {
		c.Net[i].Entries = slices.Clone(c.Net[i].Entries)
	}
	return c
}

func sameCrew(a, b impl.Crew) bool {
	return slices.EqualFunc(a.Nodes, b.Nodes, sameNode) && slices.EqualFunc(a.Net, b.Net, sameMsg) && slices.Equal(a.Ever, b.Ever) && a.Split == b.Split
}

func sameCrewAnswer(a, b crewAnswer) bool {
	return sameCrew(a.c, b.c) && a.code == b.code
}

func doneAct(c impl.Crew, a impl.Act) crewAnswer {
	x, code := impl.CrewDo(c, a)
	return crewAnswer{x, code}
}

// String is for what a test tells when it fails: how much there is of each, and the last of it.
func (a crewAnswer) String() string {
	s := fmt.Sprintf("code %d, %d nodes, %d messages, %d ever, Split %v", a.code, len(a.c.Nodes), len(a.c.Net), len(a.c.Ever), a.c.Split)
	for _, n := range a.c.Nodes {
		s += "\n\t" + brief(n)
	}
	return s + "\n\t" + brief(a.c.Net[max(0, len(a.c.Net)-5):]) + "\n\t" + brief(a.c.Ever[max(0, len(a.c.Ever)-8):])
}

// wantCrewPromise wants a right crew behind an act to be right, and all that was remembered to be there.
func wantCrewPromise(t *testing.T, name string, c impl.Crew, got crewAnswer) {
	t.Helper()
	if !impl.CrewOk(got.c) || len(got.c.Nodes) != len(c.Nodes) {
		t.Fatalf("%s: the crew is not right then: %s", name, got)
	}
	if len(got.c.Ever) < len(c.Ever) || !slices.Equal(got.c.Ever[:len(c.Ever)], c.Ever) || c.Split && !got.c.Split {
		t.Fatalf("%s: what was remembered is lost: %s", name, got)
	}
	if got.code != 0 && !sameCrew(c, got.c) {
		t.Fatalf("%s: refused, and not as it was: %s", name, got)
	}
}

// wantCrewWords wants the act to come to what the words say, to write into nothing, and to keep the promise.
func wantCrewWords(t *testing.T, name string, c impl.Crew, a impl.Act) crewAnswer {
	t.Helper()
	ahead, want := copyCrew(c), slowCrewDo(c, a)
	got := doneAct(c, a)
	if !sameCrewAnswer(got, want) {
		t.Fatalf("%s: %v of %s\n= %s\nwant %s", name, a, crewAnswer{c: c}, got, want)
	}
	if !sameCrew(c, ahead) {
		t.Fatalf("%s: %v of %s\nmade it %s", name, a, crewAnswer{c: ahead}, crewAnswer{c: c})
	}
	if slowCrewOk(c) {
		wantCrewPromise(t, name, c, got)
	}
	return got
}

// wantCrew wants the act to come to this, as the words say, too.
func wantCrew(t *testing.T, name string, c impl.Crew, a impl.Act, want crewAnswer) impl.Crew {
	t.Helper()
	if said := slowCrewDo(c, a); !sameCrewAnswer(said, want) {
		t.Fatalf("%s: the words say that %v of %s\n= %s\nwant %s", name, a, crewAnswer{c: c}, said, want)
	}
	return wantCrewWords(t, name, c, a).c
}

// wantActRefused wants the act to be refused with the code, and the crew to be handed back.
func wantActRefused(t *testing.T, name string, c impl.Crew, a impl.Act, code int) {
	t.Helper()
	wantCrew(t, name, c, a, crewAnswer{c, code})
}

// crewWith is the crew with a change.
func crewWith(c impl.Crew, change func(c *impl.Crew)) impl.Crew {
	c = copyCrew(c)
	change(&c)
	return c
}

// freshCrew has nothing yet, with room for much.
func freshCrew(peers, kind int) impl.Crew {
	var c impl.Crew
	for id := range peers {
		c.Nodes = append(c.Nodes, freshNode(id, peers, kind))
	}
	return c
}

// everUpTo is what was ever agreed on: seven that no node of busyCrew has any more, and what richWal has behind them.
func everUpTo(many int) []impl.Entry {
	return append(sameEntries(7, 2, "old"), richWal().Entries...)[:many]
}

// busyNet has a message of each kind between the three nodes and to and from clients.
func busyNet(kind int) []impl.Msg {
	image := imageOf(nowShard()).text()
	if kind == impl.KdMeta {
		image = imageOf(nowMeta()).text()
	}
	return []impl.Msg{
		voteMsg(2, 0, 6, 11, 6), votedMsg(0, 2, 6, true), appMsg(1, 0, 6, 11, 6, 10, oneEntry(6, "n")...), appedMsg(0, 1, 6, 11, true), snapMsg(1, 2, 6, 40, 6, image),
		callMsg(11, 1, 1, flushText), toldMsg(1, 12, 7, toldText), voteMsg(0, 1, 9, 30, 9), appedMsg(2, 1, 6, 3, false), callMsg(12, 0, 7, flushText), toldMsg(2, 11, 1, toldText),
	}
}

// busyCrew has one node that follows, one that leads and one that seeks; all that is agreed on is remembered.
func busyCrew(kind int) impl.Crew {
	follow := coreWith(followCore(), func(c *impl.Core) { c.Id, c.Vote, c.Lead = 0, 1, 1 })
	seek := coreWith(seekCore(), func(c *impl.Core) { c.Id, c.Peers, c.Vote, c.Yes = 2, 3, 2, []int{2} })
	node := shardNode
	if kind == impl.KdMeta {
		node = metaNode
	}
	return impl.Crew{Nodes: []impl.Node{node(follow), node(leadCore()), node(seek)}, Net: busyNet(kind), Ever: everUpTo(8)}
}

// withDown is the crew with nodes that are down.
func withDown(c impl.Crew, ids ...int) impl.Crew {
	return crewWith(c, func(c *impl.Crew) {
		for _, id := range ids {
			c.Nodes[id] = downNode(c.Nodes[id])
		}
	})
}

// rightCrews are of each Kind, of one to five nodes, up and down.
func rightCrews() []impl.Crew {
	l := []impl.Crew{busyCrew(impl.KdMeta), busyCrew(impl.KdShard), withDown(busyCrew(impl.KdShard), 0), withDown(busyCrew(impl.KdMeta), 1, 2), withDown(busyCrew(impl.KdShard), 0, 1, 2)}
	for peers := 1; peers <= 5; peers++ {
		l = append(l, freshCrew(peers, 1+peers%2))
	}
	return l
}

// stillAct is done, and changes no node and no message: a Fuel that can't be.
func stillAct() impl.Act {
	return impl.Act{Kind: impl.AcFuel, B: -1}
}

func TestCrewConstants(t *testing.T) {
	got := []int{impl.MaxNet, impl.MaxEver, impl.AcElect, impl.AcBeat, impl.AcCompact, impl.AcFuel, impl.AcFall, impl.AcRise, impl.AcDeliver, impl.AcLose, impl.AcTwice}
	if want := []int{150, 400, 1, 2, 3, 4, 5, 6, 7, 8, 9}; !slices.Equal(got, want) {
		t.Errorf("%v, want %v", got, want)
	}
}

// someActs are one of each kind, some that are none, and some that name what is not there.
func someActs() []impl.Act {
	var l []impl.Act
	for kind := -1; kind <= 11; kind++ {
		l = append(l, impl.Act{Kind: kind}, impl.Act{Kind: kind, A: 1, B: 3, C: 1, D: 2})
	}
	return append(l, impl.Act{Kind: impl.AcElect, A: -1}, impl.Act{Kind: impl.AcRise, A: 99}, impl.Act{Kind: impl.AcDeliver, A: -1}, impl.Act{Kind: impl.AcLose, A: 999})
}

// wantCrewOk wants the crew to be right or not, and the zero Crew and 1 of whatever happens to it if it is not.
func wantCrewOk(t *testing.T, name string, c impl.Crew, right bool) {
	t.Helper()
	if slowCrewOk(c) != right {
		t.Fatalf("%s: is %s right? The words say %v", name, crewAnswer{c: c}, !right)
	}
	ahead := copyCrew(c)
	if impl.CrewOk(c) != right {
		t.Fatalf("%s: CrewOk of %s is %v", name, crewAnswer{c: c}, !right)
	}
	if !right {
		for _, a := range someActs() {
			if got := doneAct(c, a); !sameCrewAnswer(got, crewAnswer{code: 1}) {
				t.Fatalf("%s: %v of %s\n= %s", name, a, crewAnswer{c: c}, got)
			}
		}
	}
	if !sameCrew(c, ahead) {
		t.Fatalf("%s: %s became %s", name, crewAnswer{c: ahead}, crewAnswer{c: c})
	}
}

func TestCrewOkOfHowManyNodes(t *testing.T) {
	wantCrewOk(t, "the zero Crew", impl.Crew{}, false)
	wantCrewOk(t, "no Nodes", impl.Crew{Nodes: []impl.Node{}, Net: nil, Ever: everUpTo(3)}, false)
	for kind := 1; kind <= 2; kind++ {
		for peers := 1; peers <= 5; peers++ {
			c := freshCrew(peers, kind)
			wantCrewOk(t, fmt.Sprint(peers, " nodes"), c, true)
			wantCrewOk(t, "all down", withDown(c, []int{0, 1, 2, 3, 4}[:peers]...), true)
			wantCrewOk(t, "one less", crewWith(c, func(c *impl.Crew) { c.Nodes = c.Nodes[:peers-1] }), false)
			wantCrewOk(t, "the first one gone", crewWith(c, func(c *impl.Crew) { c.Nodes = c.Nodes[1:] }), false)
			wantCrewOk(t, "the last one twice", crewWith(c, func(c *impl.Crew) { c.Nodes = append(c.Nodes, c.Nodes[peers-1]) }), false)
			wantCrewOk(t, "one of more", crewWith(c, func(c *impl.Crew) { c.Nodes = append(c.Nodes, freshNode(min(peers, 4), 5, kind)) }), false)
			next := freshNode(0, 5, kind)
			next.Id, next.Core.Id, next.Peers, next.Core.Peers = peers, peers, peers+1, peers+1
			wantCrewOk(t, "one more", crewWith(c, func(c *impl.Crew) { c.Nodes = append(c.Nodes, next) }), false)
		}
		six := freshCrew(6, kind)
		wantCrewOk(t, "six", six, false)
		for i := range six.Nodes {
			six.Nodes[i].Peers, six.Nodes[i].Core.Peers = 5, 5
		}
		wantCrewOk(t, "six of five", six, false)
	}
	wantCrewOk(t, "very many", impl.Crew{Nodes: make([]impl.Node, 100000)}, false)
	wantCrewOk(t, "very many right ones", impl.Crew{Nodes: slices.Repeat([]impl.Node{freshNode(0, 1, 1)}, 1000)}, false)
	for _, c := range rightCrews() {
		wantCrewOk(t, "each", c, true)
	}
}

// aFaults each make a node that is up, and right, one that is not, whatever it is.
func aFaults() []func(n *impl.Node) {
	return []func(n *impl.Node){
		func(n *impl.Node) { n.Fuel = -2 }, func(n *impl.Node) { n.Fuel = 101 }, func(n *impl.Node) { n.Keep = 1 }, func(n *impl.Node) { n.Cut = 1 }, func(n *impl.Node) { n.Kind = 3 }, func(n *impl.Node) { n.Up = false }, func(n *impl.Node) { n.Core.Role = 4 }, func(n *impl.Node) { n.Core.Vote = 5 },
		func(n *impl.Node) { n.State.Hold = -1 }, func(n *impl.Node) { n.Snap.Data += "x" }, func(n *impl.Node) { n.Disk.Next = 0 }, func(n *impl.Node) { n.Disk = impl.Disk{Next: 1} }, func(n *impl.Node) { *n = impl.Node{} }, func(n *impl.Node) { n.Core.Term++ },
	}
}

func TestCrewOkOfEachNode(t *testing.T) {
	for _, c := range []impl.Crew{freshCrew(1, 2), freshCrew(2, 1), busyCrew(impl.KdMeta), busyCrew(impl.KdShard), freshCrew(4, 1), freshCrew(5, 2)} {
		peers := len(c.Nodes)
		for id := range peers {
			on := func(change func(n *impl.Node)) impl.Crew {
				return crewWith(c, func(c *impl.Crew) { change(&c.Nodes[id]) })
			}
			for i, fault := range aFaults() {
				wantCrewOk(t, fmt.Sprint("node ", id, " of ", peers, " with fault ", i), on(fault), false)
			}
			for _, x := range []int{-1, 0, 1, 2, 3, 4, 5} {
				wantCrewOk(t, "Id", on(func(n *impl.Node) { n.Id, n.Core.Id = x, x }), x == id)
				wantCrewOk(t, "Id of one that is down", on(func(n *impl.Node) { *n = downNode(*n); n.Id = x }), x == id)
				wantCrewOk(t, "Peers of one that is down", on(func(n *impl.Node) { *n = downNode(*n); n.Peers = x }), x == peers)
				wantCrewOk(t, "Kind of one that is down", on(func(n *impl.Node) { *n = downNode(*n); n.Kind = x }), x == c.Nodes[0].Kind || peers == 1 && within(x, 1, 2))
			}
			for _, of := range []int{1, 2, 3, 4, 5} {
				if of > id {
					wantCrewOk(t, "of more or less", on(func(n *impl.Node) { *n = freshNode(id, of, n.Kind) }), of == peers)
				}
			}
			wantCrewOk(t, "new", on(func(n *impl.Node) { *n = freshNode(id, peers, n.Kind) }), true)
			wantCrewOk(t, "of the other Kind", on(func(n *impl.Node) { *n = freshNode(id, peers, 3-n.Kind) }), peers == 1)
			for other := range id {
				wantCrewOk(t, "in another's place", crewWith(c, func(c *impl.Crew) { c.Nodes[id], c.Nodes[other] = c.Nodes[other], c.Nodes[id] }), false)
				wantCrewOk(t, "twice", on(func(n *impl.Node) { *n = c.Nodes[other] }), false)
				wantCrewOk(t, "two of the other Kind", crewWith(on(func(n *impl.Node) { *n = freshNode(id, peers, 3-n.Kind) }), func(c *impl.Crew) { c.Nodes[other] = freshNode(other, peers, 3-c.Nodes[other].Kind) }), peers == 2)
			}
		}
	}
}

// numberedNet has messages that differ, between the first two nodes, with an Index from first on.
func numberedNet(many, first int) []impl.Msg {
	var l []impl.Msg
	for i := range many {
		l = append(l, appedMsg(i%2, 1-i%2, 1, first+i, true))
	}
	return l
}

func TestCrewOkOfHowManyMessages(t *testing.T) {
	for _, c := range []impl.Crew{freshCrew(2, 1), freshCrew(5, 2), busyCrew(impl.KdShard), withDown(freshCrew(2, 2), 0, 1)} {
		for _, many := range []int{0, 1, 2, 149, 150, 151, 152, 300} {
			wantCrewOk(t, fmt.Sprint(many, " messages"), crewWith(c, func(c *impl.Crew) { c.Net = numberedNet(many, 0) }), many <= 150)
			wantCrewOk(t, fmt.Sprint(many, " alike"), crewWith(c, func(c *impl.Crew) { c.Net = slices.Repeat([]impl.Msg{callMsg(11, 0, 1, flushText)}, many) }), many <= 150)
		}
	}
	wantCrewOk(t, "very many", crewWith(freshCrew(2, 1), func(c *impl.Crew) { c.Net = make([]impl.Msg, 100000) }), false)
}

func TestCrewOkOfEachMessage(t *testing.T) {
	for _, peers := range []int{1, 2, 3, 4, 5} {
		c := freshCrew(peers, 1)
		with := func(m impl.Msg) impl.Crew { return crewWith(c, func(c *impl.Crew) { c.Net = []impl.Msg{m} }) }
		for from := -1; from <= 16; from++ {
			for to := -1; to <= 16; to++ {
				servers := within(from, 0, peers-1) && within(to, 0, peers-1) && from != to
				for _, m := range []impl.Msg{voteMsg(from, to, 7, 5, 3), votedMsg(from, to, 7, true), appMsg(from, to, 7, 5, 3, 4, entriesOf(3, 5)...), appedMsg(from, to, 7, 5, false), snapMsg(from, to, 7, 5, 3, "state")} {
					wantCrewOk(t, "between servers", with(m), servers)
				}
				wantCrewOk(t, "a call", with(callMsg(from, to, 1, flushText)), within(from, 11, 14) && within(to, 0, peers-1))
				wantCrewOk(t, "an answer", with(toldMsg(from, to, 1, toldText)), within(from, 0, peers-1) && within(to, 11, 14))
			}
		}
	}
	five := freshCrew(5, 2)
	for _, at := range []int{0, 1, 70, 148, 149} {
		put := func(c impl.Crew, m impl.Msg) impl.Crew {
			return crewWith(c, func(c *impl.Crew) { c.Net = numberedNet(150, 0); c.Net[at] = m })
		}
		for _, m := range sampleMsgs() {
			wantCrewOk(t, "right", put(five, m), true)
			wantCrewOk(t, "right, of fewer", put(freshCrew(2, 2), m), (m.From < 2 || m.From > 10) && (m.To < 2 || m.To > 10))
			for _, turn := range []func(m *impl.Msg){
				func(m *impl.Msg) { m.Kind = 0 }, func(m *impl.Msg) { m.Kind = 8 }, func(m *impl.Msg) { m.From = m.To }, func(m *impl.Msg) { m.Term = -1 }, func(m *impl.Msg) { m.Term = 100001 }, func(m *impl.Msg) { m.Index = -1 }, func(m *impl.Msg) { m.Index = 1000001 }, func(m *impl.Msg) { m.IndexTerm = -1 }, func(m *impl.Msg) { m.Commit = 100001 },
				func(m *impl.Msg) { m.Entries = sameEntries(5, 7, "") }, func(m *impl.Msg) { m.Entries = oneEntry(7, strings.Repeat("d", 901)) }, func(m *impl.Msg) { m.Data += strings.Repeat("x", 30001) }, func(m *impl.Msg) { *m = impl.Msg{} },
			} {
				x := m
				turn(&x)
				wantCrewOk(t, "not MsgOk", put(five, x), false)
			}
		}
	}
}

func TestCrewOkOfEver(t *testing.T) {
	for _, c := range []impl.Crew{freshCrew(3, 1), busyCrew(impl.KdShard), withDown(freshCrew(2, 2), 0, 1)} {
		with := func(l []impl.Entry) impl.Crew { return crewWith(c, func(c *impl.Crew) { c.Ever = l }) }
		for _, many := range []int{0, 1, 2, 399, 400, 401, 402, 1000} {
			wantCrewOk(t, fmt.Sprint(many, " ever"), with(sameEntries(many, 1, "e")), many <= 400)
		}
		for _, many := range []int{1, 3, 400} {
			for _, at := range []int{0, many / 2, many - 1} {
				put := func(e impl.Entry) impl.Crew {
					l := sameEntries(many, 5, "e")
					l[at] = e
					return with(l)
				}
				for _, term := range []int{math.MinInt, -1, 0, 1, 2, 5, 6, 99999, 100000, 100001, math.MaxInt} {
					wantCrewOk(t, fmt.Sprint("Term ", term), put(impl.Entry{Term: term}), within(term, 1, 100000))
				}
				for _, size := range []int{0, 1, 899, 900, 901, 902, 30000} {
					wantCrewOk(t, fmt.Sprint(size, " bytes"), put(impl.Entry{Term: 3, Data: strings.Repeat("d", size)}), size <= 900)
				}
			}
		}
		// Terms that fall are no fault here, nor are Entries that no node has.
		wantCrewOk(t, "Terms that fall", with(entriesOf(9, 3, 100000, 1, 2)), true)
	}
}

func TestCrewOkOfSplit(t *testing.T) {
	for _, c := range append(rightCrews(), impl.Crew{}, freshCrew(6, 1)) {
		for _, split := range []bool{false, true} {
			wantCrewOk(t, "either way", crewWith(c, func(c *impl.Crew) { c.Split = split }), len(c.Nodes) > 0 && len(c.Nodes) < 6)
		}
	}
}

// crewFaults each make a right crew of three, with messages and with what was ever agreed on, one that is not right.
func crewFaults() []func(c *impl.Crew) {
	return []func(c *impl.Crew){
		func(c *impl.Crew) { c.Nodes = nil }, func(c *impl.Crew) { c.Nodes = c.Nodes[:2] }, func(c *impl.Crew) { c.Nodes = append(c.Nodes, c.Nodes...) }, func(c *impl.Crew) { c.Nodes[0].Kind = 3 - c.Nodes[0].Kind }, func(c *impl.Crew) { c.Nodes[len(c.Nodes)-1] = impl.Node{} }, func(c *impl.Crew) { c.Nodes = slices.Clone(c.Nodes); slices.Reverse(c.Nodes) },
		func(c *impl.Crew) { c.Nodes = freshCrew(2, 1).Nodes }, func(c *impl.Crew) { c.Net = append(numberedNet(140, 0), c.Net...) }, func(c *impl.Crew) { c.Net[0].From = 3 }, func(c *impl.Crew) { c.Net[len(c.Net)-1].To = 15 }, func(c *impl.Crew) { c.Net[2].Kind = 0 },
		func(c *impl.Crew) { c.Ever = append(sameEntries(400, 1, ""), c.Ever...) }, func(c *impl.Crew) { c.Ever[0].Term = 0 }, func(c *impl.Crew) { c.Ever[len(c.Ever)-1].Data = strings.Repeat("e", 901) }, func(c *impl.Crew) { c.Ever[3].Term = 100001 },
	}
}

func TestCrewsWithSeveralFaults(t *testing.T) {
	for _, c := range []impl.Crew{busyCrew(impl.KdMeta), withDown(busyCrew(impl.KdShard), 2)} {
		for i, one := range crewFaults() {
			wantCrewOk(t, fmt.Sprint("fault ", i), crewWith(c, one), false)
			for j, other := range crewFaults() {
				if i == 0 && j > 2 && j < 6 {
					continue
				}
				x := crewWith(c, func(c *impl.Crew) { other(c) })
				if len(x.Nodes) > 0 {
					x = crewWith(x, func(c *impl.Crew) { one(c) })
				}
				wantCrewOk(t, fmt.Sprint("faults ", i, " and ", j), x, slowCrewOk(x))
			}
		}
	}
}

func TestNewCrew(t *testing.T) {
	for _, peers := range []int{math.MinInt, -1, 0, 1, 2, 3, 4, 5, 6, 7, 100, math.MaxInt} {
		for _, room := range []int{math.MinInt, -1, 0, 1, 12, 23, 24, 25, 5000, 1048575, 1048576, 1048577, math.MaxInt} {
			for _, kind := range []int{math.MinInt, -1, 0, 1, 2, 3, math.MaxInt} {
				right := within(peers, 1, 5) && within(room, 24, 1048576) && within(kind, 1, 2)
				var want impl.Crew
				for id := 0; right && id < peers; id++ {
					n, _ := impl.NodeNew(id, peers, room, kind)
					want.Nodes = append(want.Nodes, n)
				}
				c, ok := impl.NewCrew(peers, room, kind)
				if ok != right || !sameCrew(c, want) {
					t.Fatalf("NewCrew(%d, %d, %d) = %v, %s", peers, room, kind, ok, crewAnswer{c: c})
				}
				if right {
					wantCrewOk(t, "new", c, true)
				}
			}
		}
	}
	c, _ := impl.NewCrew(3, 1048576, impl.KdShard)
	for id, n := range c.Nodes {
		if n.Id != id || n.Peers != 3 || n.Kind != impl.KdShard || !n.Up || n.Core.Role != impl.RlFollow || n.Disk.Room != 1048576 {
			t.Errorf("node %d: %s", id, brief(n))
		}
	}
}

func TestCrewDoKinds(t *testing.T) {
	for _, c := range rightCrews() {
		for _, kind := range []int{math.MinInt, -7, -1, 0, 10, 11, 12, 100, math.MaxInt} {
			for _, at := range []int{math.MinInt, -1, 0, 1, 5, 150, math.MaxInt} {
				wantActRefused(t, "none of the nine", c, impl.Act{Kind: kind, A: at}, 1)
			}
		}
		for kind := 1; kind <= 9; kind++ {
			for at := -2; at <= len(c.Net)+2; at++ {
				got := wantCrewWords(t, "one of the nine", c, impl.Act{Kind: kind, A: at})
				if got.code == 1 {
					t.Fatalf("Kind %d: %s", kind, got)
				}
			}
		}
	}
}

func TestCrewDoOfWhatIsNotThere(t *testing.T) {
	for _, c := range rightCrews() {
		for kind := impl.AcElect; kind <= impl.AcTwice; kind++ {
			many := len(c.Nodes)
			if kind >= impl.AcDeliver {
				many = len(c.Net)
			}
			for _, at := range []int{math.MinInt, -100, -2, -1, many, many + 1, 150, 151, 1 << 32, math.MaxInt} {
				wantActRefused(t, "there is none", c, impl.Act{Kind: kind, A: at}, 2)
				wantActRefused(t, "there is none, and all else is there", c, impl.Act{Kind: kind, G: 1, A: at, B: 1, C: 1, D: 1}, 2)
			}
			for _, at := range []int{0, many - 1} {
				if many > 0 {
					if got := wantCrewWords(t, "there is one", c, impl.Act{Kind: kind, A: at}); got.code == 2 {
						t.Fatalf("Kind %d, A %d: %s", kind, at, got)
					}
				}
			}
		}
	}
	// The messages have nothing to do with how many nodes there are.
	c := crewWith(freshCrew(2, 1), func(c *impl.Crew) { c.Net = numberedNet(150, 0) })
	for _, kind := range []int{impl.AcDeliver, impl.AcLose, impl.AcTwice} {
		for _, at := range []int{2, 5, 100, 149} {
			if got := wantCrewWords(t, "far behind", c, impl.Act{Kind: kind, A: at}); got.code != 0 {
				t.Fatalf("Kind %d, A %d: %s", kind, at, got)
			}
		}
		wantActRefused(t, "one past it", c, impl.Act{Kind: kind, A: 150}, 2)
	}
	for kind := impl.AcElect; kind <= impl.AcRise; kind++ {
		wantActRefused(t, "a message, and no node", c, impl.Act{Kind: kind, A: 2}, 2)
	}
}

// Of several reasons the first one counts.
func TestCrewDoReasons(t *testing.T) {
	bad := crewWith(busyCrew(impl.KdMeta), func(c *impl.Crew) { c.Ever[0].Term = 0 })
	for _, a := range []impl.Act{{Kind: 0}, {Kind: 10, A: -1}, {Kind: impl.AcElect, A: 3}, {Kind: impl.AcDeliver, A: -1}, {Kind: impl.AcDeliver, A: 6}, {Kind: impl.AcLose, A: 11}} {
		wantCrew(t, "not right", bad, a, crewAnswer{code: 1})
	}
	c := busyCrew(impl.KdMeta)
	wantActRefused(t, "no kind, no node", c, impl.Act{Kind: 0, A: 3}, 1)
	wantActRefused(t, "no kind, no message", c, impl.Act{Kind: 10, A: -1}, 1)
	wantActRefused(t, "no kind, a message to a client", c, impl.Act{Kind: 16, A: 6}, 1)
	wantActRefused(t, "no message, one that is to a client at the end", c, impl.Act{Kind: impl.AcDeliver, A: 11}, 2)
	wantActRefused(t, "no message, one that is to a client at the beginning", crewWith(c, func(c *impl.Crew) { slices.Reverse(c.Net) }), impl.Act{Kind: impl.AcDeliver, A: -1}, 2)
	wantActRefused(t, "a message to a client", c, impl.Act{Kind: impl.AcDeliver, A: 6}, 3)
	wantActRefused(t, "a message to a client, and none behind it", c, impl.Act{Kind: impl.AcDeliver, A: 10}, 3)
	// What is refused is not remembered, either.
	news := crewWith(c, func(c *impl.Crew) { c.Ever = everUpTo(7) })
	wantActRefused(t, "nothing is remembered", news, impl.Act{Kind: 10}, 1)
	wantActRefused(t, "nothing is remembered", news, impl.Act{Kind: impl.AcElect, A: 3}, 2)
	wantActRefused(t, "nothing is remembered", news, impl.Act{Kind: impl.AcDeliver, A: 6}, 3)
	wantCrew(t, "all is remembered", news, stillAct(), crewAnswer{c, 0})
}

// oneNode is the crew with the node behind a call, and with what it says behind Net.
func oneNode(c impl.Crew, id int, got nodeAnswer) impl.Crew {
	return crewWith(c, func(c *impl.Crew) { c.Nodes[id], c.Net = got.n, append(c.Net, got.said...) })
}

// Each act is the call on its node that it names, and what that says is sent.
func TestEachActOnEachNode(t *testing.T) {
	said, downs, ups := 0, 0, 0
	for _, c := range rightCrews() {
		for id, n := range c.Nodes {
			for kind := impl.AcElect; kind <= impl.AcRise; kind++ {
				for _, with := range [][3]int{{0, 0, 0}, {1, 2, 3}, {100, 20, 1048576}, {101, 0, 0}, {-1, 0, 0}, {5, 21, 0}, {5, 0, 1048577}, {5, -1, -1}, {math.MaxInt, math.MinInt, math.MaxInt}} {
					a := impl.Act{Kind: kind, A: id, B: with[0], C: with[1], D: with[2]}
					got := actCall(a).do(n)
					x := wantCrew(t, "each", c, a, crewAnswer{slowRemembered(oneNode(c, id, got)), 0})
					said += len(got.said)
					if n.Up && !x.Nodes[id].Up {
						downs++
					}
					if !n.Up && x.Nodes[id].Up {
						ups++
					}
				}
			}
		}
	}
	if said < 100 || downs < 50 || ups < 50 {
		t.Errorf("%d said, %d went down, %d rose", said, downs, ups)
	}
}

// Which of B, C and D an act is done with.
func TestActsWithTheirNumbers(t *testing.T) {
	c := busyCrew(impl.KdShard)
	fuelled := wantCrew(t, "Fuel", c, impl.Act{Kind: impl.AcFuel, A: 2, B: 7, C: 3, D: 9}, crewAnswer{crewWith(c, func(c *impl.Crew) { c.Nodes[2].Fuel, c.Nodes[2].Keep, c.Nodes[2].Cut = 7, 3, 9 }), 0})
	// It falls in the midst of writing: with its own Keep and Cut.
	fell := wantCrewWords(t, "it falls", crewWith(fuelled, func(c *impl.Crew) { c.Nodes[2].Fuel = 1 }), impl.Act{Kind: impl.AcElect, A: 2, B: 1, C: 1, D: 1}).c
	if want := impl.NodeFall(fuelled.Nodes[2], 3, 0); fell.Nodes[2].Up || len(fell.Net) != len(c.Net) || slices.Equal(fell.Nodes[2].Disk.Inodes, want.Disk.Inodes) {
		t.Errorf("it fell as %s", brief(fell.Nodes[2]))
	}
	loose := crewWith(c, func(c *impl.Crew) { c.Nodes[1].Disk = looseNode().Disk; c.Nodes[1].Core = followCore() })
	want := crewWith(loose, func(c *impl.Crew) { c.Nodes[1] = impl.NodeFall(loose.Nodes[1], 1, 7) })
	wantCrew(t, "Fall with C and D", loose, impl.Act{Kind: impl.AcFall, A: 1, B: 99, C: 1, D: 7}, crewAnswer{want, 0})
	for _, b := range []int{math.MinInt, -1, 0, 100, 101, math.MaxInt} {
		if x := wantCrewWords(t, "Fall without B", loose, impl.Act{Kind: impl.AcFall, A: 1, B: b, C: 2, D: 0}).c; !sameNode(x.Nodes[1], impl.NodeFall(loose.Nodes[1], 2, 0)) {
			t.Errorf("B %d: %s", b, brief(x.Nodes[1]))
		}
	}
}

// G and Call are not looked at, nor is what a kind does not name.
func TestActsWithMoreThanTheyName(t *testing.T) {
	for _, c := range []impl.Crew{busyCrew(impl.KdMeta), withDown(busyCrew(impl.KdShard), 1)} {
		for kind := -1; kind <= 11; kind++ {
			for _, at := range []int{-1, 0, 1, 2, 6, 10, 11} {
				a := impl.Act{Kind: kind, A: at, B: 3, C: 2, D: 1}
				want := wantCrewWords(t, "plain", c, a)
				for _, g := range []int{math.MinInt, -1, 1, 2, 3, 99, math.MaxInt} {
					x := a
					x.G = g
					wantCrew(t, "another G", c, x, want)
				}
				for _, call := range []impl.Call{{Kind: impl.ClRead, Key: "cpu", From: 1, To: 9}, {Kind: -1, Key: "No", From: -5, To: -9, Data: strings.Repeat("x", 100000)}, {Kind: math.MaxInt}} {
					x := a
					x.Call = call
					wantCrew(t, "another Call", c, x, want)
				}
				if kind != impl.AcFuel {
					x := a
					x.B = -77
					wantCrew(t, "another B", c, x, want)
				}
				if kind != impl.AcFuel && kind != impl.AcFall {
					x := a
					x.C, x.D = math.MaxInt, math.MinInt
					wantCrew(t, "another C and D", c, x, want)
				}
			}
		}
	}
}

// Three new servers, act by act.
func TestACrewByHand(t *testing.T) {
	c, _ := impl.NewCrew(3, 90000, impl.KdMeta)
	step := func(name string, a impl.Act, net []impl.Msg, ever ...impl.Entry) {
		t.Helper()
		got := wantCrewWords(t, name, c, a)
		if got.code != 0 || !slices.EqualFunc(got.c.Net, net, sameMsg) || !slices.Equal(got.c.Ever, ever) || got.c.Split {
			t.Fatalf("%s: %s", name, got)
		}
		c = got.c
	}
	first, call := impl.Entry{Term: 1}, cmdEntry(1, 1, 1, routeOp(50, 250))
	ask := voteMsg(0, 2, 1, 0, 0)
	step("0 seeks", impl.Act{Kind: impl.AcElect}, []impl.Msg{voteMsg(0, 1, 1, 0, 0), ask})
	step("1 votes", impl.Act{Kind: impl.AcDeliver}, []impl.Msg{ask, votedMsg(1, 0, 1, true)})
	late := appMsg(0, 2, 1, 0, 0, 0, first)
	step("0 leads", impl.Act{Kind: impl.AcDeliver, A: 1}, []impl.Msg{ask, appMsg(0, 1, 1, 0, 0, 0, first), late})
	step("1 takes it", impl.Act{Kind: impl.AcDeliver, A: 1}, []impl.Msg{ask, late, appedMsg(1, 0, 1, 1, true)})
	step("all of it again", impl.Act{Kind: impl.AcTwice, A: 2}, []impl.Msg{ask, late, appedMsg(1, 0, 1, 1, true), appedMsg(1, 0, 1, 1, true)})
	step("one is lost", impl.Act{Kind: impl.AcLose, A: 2}, []impl.Msg{ask, late, appedMsg(1, 0, 1, 1, true)})
	step("it is agreed on", impl.Act{Kind: impl.AcDeliver, A: 2}, []impl.Msg{ask, late}, first)
	c.Net = append(c.Net, callMsg(11, 0, 1, opText(routeOp(50, 250))))
	both := appMsg(0, 2, 1, 0, 0, 1, first, call)
	step("a call", impl.Act{Kind: impl.AcDeliver, A: 2}, []impl.Msg{ask, late, appMsg(0, 1, 1, 1, 1, 1, call), both}, first)
	step("1 takes the call", impl.Act{Kind: impl.AcDeliver, A: 2}, []impl.Msg{ask, late, both, appedMsg(1, 0, 1, 2, true)}, first)
	told := slowTold(0, 1, 1, impl.Answer{Index: 2, Data: "\x00\x00\x01\x01\x02\x00"})
	step("the call is told", impl.Act{Kind: impl.AcDeliver, A: 3}, []impl.Msg{ask, late, both, told}, first, call)
	wantActRefused(t, "to the client", c, impl.Act{Kind: impl.AcDeliver, A: 3}, 3)
	step("2 takes all", impl.Act{Kind: impl.AcDeliver, A: 2}, []impl.Msg{ask, late, told, appedMsg(2, 0, 1, 2, true)}, first, call)
	step("2 gets the old one", impl.Act{Kind: impl.AcDeliver, A: 1}, []impl.Msg{ask, told, appedMsg(2, 0, 1, 2, true), appedMsg(2, 0, 1, 1, true)}, first, call)
	step("0 puts its log away", impl.Act{Kind: impl.AcCompact}, c.Net, first, call)
	step("0 falls", impl.Act{Kind: impl.AcFall}, c.Net, first, call)
	step("nobody hears it", impl.Act{Kind: impl.AcDeliver, A: 3}, c.Net[:3], first, call)
	step("nobody beats", impl.Act{Kind: impl.AcBeat}, c.Net, first, call)
	step("0 rises", impl.Act{Kind: impl.AcRise}, c.Net, first, call)
	if n := c.Nodes[0]; !n.Up || n.Core.Base != 2 || n.Core.Commit != 2 || n.Core.Role != impl.RlFollow || len(n.State.Buckets) != 3 {
		t.Errorf("0 rose as %s", brief(n))
	}
}

// A message between servers, or a call, leaves Net, and its node hears it, whatever stands around it.
func TestDeliver(t *testing.T) {
	kinds := map[int]int{}
	for _, c := range []impl.Crew{busyCrew(impl.KdMeta), busyCrew(impl.KdShard), withDown(busyCrew(impl.KdMeta), 0), withDown(busyCrew(impl.KdShard), 1, 2)} {
		for _, m := range slices.Concat(c.Net, between(), []impl.Msg{callMsg(11, 1, 1, opText(flushOp())), callMsg(12, 1, 8, opText(routeOp(0, 100))), callMsg(14, 2, 1, flushText), snapMsg(1, 0, 8, 30, 8, "no state")}) {
			for _, at := range []int{0, 3, 11} {
				x := crewWith(c, func(c *impl.Crew) { c.Net = slices.Insert(c.Net, at, m) })
				if m.Kind == impl.MsTold {
					wantActRefused(t, "to a client", x, impl.Act{Kind: impl.AcDeliver, A: at}, 3)
					continue
				}
				got := nodeHearCall(m).do(c.Nodes[m.To])
				want := slowRemembered(oneNode(c, m.To, got))
				wantCrew(t, "to a server", x, impl.Act{Kind: impl.AcDeliver, A: at}, crewAnswer{want, 0})
				kinds[m.Kind] += len(got.said)
			}
		}
	}
	for _, kind := range []int{impl.MsVote, impl.MsApp, impl.MsApped, impl.MsSnap, impl.MsCall} {
		if kinds[kind] < 3 {
			t.Errorf("to kind %d %d messages were said", kind, kinds[kind])
		}
	}
}

func TestLoseAndTwice(t *testing.T) {
	for _, c := range rightCrews() {
		for at, m := range c.Net {
			lost := crewWith(c, func(c *impl.Crew) { c.Net = slices.Delete(c.Net, at, at+1) })
			wantCrew(t, "lost", c, impl.Act{Kind: impl.AcLose, A: at}, crewAnswer{lost, 0})
			twice := crewWith(c, func(c *impl.Crew) { c.Net = append(c.Net, m) })
			wantCrew(t, "twice", c, impl.Act{Kind: impl.AcTwice, A: at}, crewAnswer{twice, 0})
		}
	}
	for _, many := range []int{1, 2, 148, 149, 150} {
		c := crewWith(freshCrew(2, 1), func(c *impl.Crew) { c.Net = numberedNet(many, 0) })
		for _, at := range []int{0, many / 2, many - 1} {
			want := crewWith(c, func(c *impl.Crew) {
				if many < 150 {
					c.Net = append(c.Net, c.Net[at])
				}
			})
			x := wantCrew(t, "twice where Net has few or many", c, impl.Act{Kind: impl.AcTwice, A: at}, crewAnswer{want, 0})
			if len(x.Net) != min(many+1, 150) || x.Net[len(x.Net)-1].Index != at && many < 150 {
				t.Fatalf("%d, %d: %s", many, at, brief(x.Net))
			}
			wantCrew(t, "lost where Net has few or many", c, impl.Act{Kind: impl.AcLose, A: at}, crewAnswer{crewWith(c, func(c *impl.Crew) { c.Net = slices.Delete(c.Net, at, at+1) }), 0})
		}
	}
	// A message to a client may be lost and sent twice like another one.
	c := crewWith(freshCrew(1, 2), func(c *impl.Crew) { c.Net = []impl.Msg{toldMsg(0, 11, 1, toldText), toldMsg(0, 12, 2, toldText)} })
	twice := wantCrew(t, "told twice", c, impl.Act{Kind: impl.AcTwice}, crewAnswer{crewWith(c, func(c *impl.Crew) { c.Net = append(c.Net, c.Net[0]) }), 0})
	wantCrew(t, "told and lost", twice, impl.Act{Kind: impl.AcLose}, crewAnswer{crewWith(c, func(c *impl.Crew) { c.Net = append(c.Net[1:], c.Net[0]) }), 0})
}

// fiveLed is five nodes, of which the third one leads all others.
func fiveLed() impl.Crew {
	c := crewWith(freshCrew(5, impl.KdShard), func(c *impl.Crew) { c.Ever = []impl.Entry{{Term: 1}} })
	c.Nodes[2] = upNode(leadOver(2, 5, 3, 0, 0, 1, entriesOf(1, 3)...), impl.State{Kind: impl.KdShard}, impl.State{Kind: impl.KdShard})
	c.Ever = slices.Clone(c.Nodes[2].Core.Log[:1])
	return c
}

// What one says to four others is sent in order, as far as there is room.
func TestWhatIsSent(t *testing.T) {
	beat := func(to int) impl.Msg { return appMsg(2, to, 3, 2, 3, 1) }
	vote := func(to int) impl.Msg { return voteMsg(0, to, 1, 0, 0) }
	for many := 0; many <= 150; many++ {
		if many > 3 && many < 140 {
			continue
		}
		c := crewWith(fiveLed(), func(c *impl.Crew) { c.Net = numberedNet(many, 0) })
		room := 150 - many
		sent := func(l ...impl.Msg) []impl.Msg {
			return append(numberedNet(many, 0), l[:min(room, len(l))]...)
		}
		want := crewWith(c, func(c *impl.Crew) { c.Net = sent(beat(0), beat(1), beat(3), beat(4)) })
		x := wantCrew(t, fmt.Sprint("it beats, ", many), c, impl.Act{Kind: impl.AcBeat, A: 2}, crewAnswer{want, 0})
		if len(x.Net) != min(many+4, 150) {
			t.Fatalf("%d: %d", many, len(x.Net))
		}
		got := wantCrewWords(t, fmt.Sprint("it seeks, ", many), c, impl.Act{Kind: impl.AcElect})
		if !slices.EqualFunc(got.c.Net, sent(vote(1), vote(2), vote(3), vote(4)), sameMsg) || got.c.Nodes[0].Core.Role != impl.RlSeek || got.code != 0 {
			t.Fatalf("it seeks, %d: %s", many, got)
		}
		// What is lost is lost: nothing of it comes later on, when there is room.
		if many > 0 {
			later := wantCrewWords(t, "later on", x, impl.Act{Kind: impl.AcLose}).c
			if !slices.EqualFunc(later.Net, x.Net[1:], sameMsg) {
				t.Fatalf("later on, %d: %s", many, brief(later.Net))
			}
		}
	}
}

// A message leaves Net ahead of what is said by it.
func TestDeliverMakesRoom(t *testing.T) {
	for many := 1; many <= 150; many++ {
		if many > 2 && many < 143 {
			continue
		}
		for _, at := range []int{0, many / 2, many - 1} {
			with := func(m impl.Msg) impl.Crew {
				return crewWith(fiveLed(), func(c *impl.Crew) { c.Net = numberedNet(many, 7); c.Net[at] = m })
			}
			left := slices.Delete(numberedNet(many, 7), at, at+1)
			e := cmdEntry(3, 1, 1, flushOp())
			added := func(to int) impl.Msg { return appMsg(2, to, 3, 2, 3, 1, e) }
			for _, c := range []struct {
				name string
				m    impl.Msg
				said []impl.Msg
			}{
				{"a call", callMsg(11, 2, 1, flushText), []impl.Msg{added(0), added(1), added(3), added(4)}},
				{"a vote", voteMsg(3, 1, 5, 9, 4), []impl.Msg{votedMsg(1, 3, 5, true)}},
				{"what says nothing", votedMsg(3, 1, 5, true), nil},
			} {
				got := wantCrewWords(t, c.name, with(c.m), impl.Act{Kind: impl.AcDeliver, A: at})
				room := 150 - len(left)
				if want := append(slices.Clone(left), c.said[:min(room, len(c.said))]...); !slices.EqualFunc(got.c.Net, want, sameMsg) {
					t.Fatalf("%s at %d of %d: %s", c.name, at, many, got)
				}
			}
		}
	}
}

// What clients are told is sent and lost like all else, behind what servers are.
func TestWhatClientsAreTold(t *testing.T) {
	c := callsLeadAlone()
	for many := 0; many <= 150; many++ {
		if many > 2 && many < 140 {
			continue
		}
		var net []impl.Msg
		for i := range many {
			net = append(net, callMsg(11+i%4, 0, i+1, flushText))
		}
		x := crewWith(c, func(c *impl.Crew) { c.Net = net })
		told := toldFrom(0, 0, 9)
		want := append(slices.Clone(net), told[:min(150-many, len(told))]...)
		got := wantCrewWords(t, "told", x, impl.Act{Kind: impl.AcElect})
		if !slices.EqualFunc(got.c.Net, want, sameMsg) || got.c.Nodes[0].Core.Commit != 10 || len(got.c.Ever) != 10 {
			t.Fatalf("%d under way: %s", many, got)
		}
	}
}

// callsLeadAlone is one node with callsLog, of which nothing is agreed on yet.
func callsLeadAlone() impl.Crew {
	n := callsNode(coreWith(newCore(0, 1), func(c *impl.Core) { c.Term = 6 }), 0)
	return impl.Crew{Nodes: []impl.Node{n}}
}

// logNode follows in Term 9, with these Entries behind Base, agreed on up to Commit.
func logNode(id, peers, base, commit int, log ...impl.Entry) impl.Node {
	c := impl.Core{Id: id, Peers: peers, Term: 9, Vote: -1, Role: impl.RlFollow, Lead: -1, Base: base, BaseTerm: min(base, 1), Log: log, Commit: commit}
	return upNode(c, keptShard(), nowShard())
}

// longLog has an Entry for each number above base, each like none other; numbers above 400 have them, too.
func longLog(base, many int) []impl.Entry {
	var l []impl.Entry
	for number := base + 1; number <= base+many; number++ {
		l = append(l, impl.Entry{Term: 1 + number/100, Data: fmt.Sprint("number ", number)})
	}
	return l
}

// wantRemembered wants behind an act that changes no node the first many of longLog, and Split or not.
func wantRemembered(t *testing.T, name string, c impl.Crew, many int, split bool) {
	t.Helper()
	want := crewWith(c, func(c *impl.Crew) {
		c.Split = split
		if many > len(c.Ever) {
			c.Ever = append(c.Ever, longLog(len(c.Ever), many-len(c.Ever))...)
		}
	})
	wantCrew(t, name, c, stillAct(), crewAnswer{want, 0})
}

// One node, with each Base, Commit and last number, and each of how many Ever has about these.
func TestRememberingOfOneNode(t *testing.T) {
	for _, base := range []int{0, 1, 2, 5, 338, 339, 340, 341, 360, 398, 399, 400, 401, 500} {
		for _, many := range []int{0, 1, 2, 5, 59, 60} {
			for _, commit := range []int{base, base + 1, base + 2, base + 58, base + many - 1, base + many} {
				if commit < base || commit > base+many {
					continue
				}
				for _, ever := range []int{0, 1, 2, 3, 4, 6, base - 1, base, base + 1, base + 2, commit - 1, commit, commit + 1, base + many, 398, 399, 400} {
					if ever < 0 || ever > 400 {
						continue
					}
					c := impl.Crew{Nodes: []impl.Node{logNode(0, 1, base, commit, longLog(base, many)...)}, Ever: longLog(0, ever)}
					name := fmt.Sprintf("Base %d, Commit %d, last number %d, %d ever", base, commit, base+many, ever)
					if base > ever {
						wantRemembered(t, name, c, ever, true)
					} else {
						wantRemembered(t, name, c, max(ever, min(commit, 400)), false)
					}
				}
			}
		}
	}
}

// An Entry that differs in Term or in Data, at each number that is told from Ever, and at each that is not.
func TestEntriesThatDiffer(t *testing.T) {
	for _, x := range []struct{ base, many, commit, ever int }{{0, 6, 4, 4}, {0, 6, 4, 6}, {0, 6, 6, 3}, {3, 6, 7, 7}, {3, 6, 7, 9}, {3, 6, 9, 5}, {3, 6, 3, 9}, {5, 1, 6, 6}, {350, 60, 405, 400}, {350, 60, 410, 395}, {395, 20, 410, 400}, {400, 5, 405, 400}} {
		c := impl.Crew{Nodes: []impl.Node{logNode(0, 1, x.base, x.commit, longLog(x.base, x.many)...)}, Ever: longLog(0, x.ever)}
		wantRemembered(t, "alike", c, max(x.ever, min(x.commit, 400)), false)
		for number := 1; number <= x.ever; number++ {
			differs := number > x.base && number <= x.commit
			for i, change := range []func(e *impl.Entry){func(e *impl.Entry) { e.Term++ }, func(e *impl.Entry) { e.Term-- }, func(e *impl.Entry) { e.Data += "x" }, func(e *impl.Entry) { e.Data = "" }, func(e *impl.Entry) { e.Data = "N" + e.Data[1:] }, func(e *impl.Entry) { *e = longLog(number, 1)[0] }} {
				turned := crewWith(c, func(c *impl.Crew) { change(&c.Ever[number-1]) })
				if turned.Ever[number-1].Term < 1 {
					continue
				}
				wantRemembered(t, fmt.Sprint(x, ": change ", i, " at ", number), turned, max(x.ever, min(x.commit, 400)), differs)
			}
		}
	}
}

// twoNodes agree on what they have, or not.
func twoNodes(one, other impl.Node, ever ...impl.Entry) impl.Crew {
	return impl.Crew{Nodes: []impl.Node{one, other}, Ever: ever}
}

// The first node's entry is remembered, whichever the act was of; the second one's is held against it.
func TestTwoNodesThatDiffer(t *testing.T) {
	for _, size := range []int{1, 2, 5, 9} {
		for at := range size {
			for i, change := range []func(e *impl.Entry){func(e *impl.Entry) { e.Data = "other" }, func(e *impl.Entry) { e.Term = 2 }, func(e *impl.Entry) { e.Data += "\x00" }} {
				log, other := longLog(0, size), longLog(0, size)
				for j := at; i == 1 && j < size; j++ {
					other[j].Term = 2
				}
				change(&other[at])
				for commit := range size + 1 {
					for _, ever := range []int{0, 1, at, size} {
						if ever > size {
							continue
						}
						c := twoNodes(logNode(0, 2, 0, size, log...), logNode(1, 2, 0, commit, other...), log[:ever]...)
						wantRemembered(t, "the second one differs", c, size, commit > at)
						c = twoNodes(logNode(0, 2, 0, commit, log...), logNode(1, 2, 0, size, other...), log[:ever]...)
						want := crewWith(c, func(c *impl.Crew) {
							known := max(ever, commit)
							c.Ever, c.Split = append(slices.Clone(log[:known]), other[known:]...), at < known || i == 1 && at+1 < known
						})
						for _, a := range []impl.Act{stillAct(), {Kind: impl.AcFuel, A: 1, B: -1}, {Kind: impl.AcBeat, A: 1}} {
							wantCrew(t, "the first one is first", c, a, crewAnswer{want, 0})
						}
					}
				}
			}
		}
	}
}

// Node by node: what the first one brings is there for the second one, not the other way round.
func TestRememberingNodeByNode(t *testing.T) {
	whole, late := func(id int) impl.Node { return logNode(id, 2, 0, 6, longLog(0, 6)...) }, func(id int) impl.Node { return logNode(id, 2, 5, 8, longLog(5, 4)...) }
	wantRemembered(t, "the whole one first", twoNodes(whole(0), late(1)), 8, false)
	wantRemembered(t, "the late one first", twoNodes(late(0), whole(1)), 6, true)
	wantRemembered(t, "the late one is just in time", twoNodes(late(0), whole(1), longLog(0, 5)...), 8, false)
	wantRemembered(t, "the late one is too late by one", twoNodes(late(0), whole(1), longLog(0, 4)...), 6, true)
	// One that is down has nothing to remember.
	wantRemembered(t, "the whole one is down", twoNodes(downNode(whole(0)), late(1)), 0, true)
	wantRemembered(t, "the late one is down", twoNodes(downNode(late(0)), whole(1)), 6, false)
	wantRemembered(t, "both are down", twoNodes(downNode(late(0)), downNode(whole(1)), longLog(0, 3)...), 3, false)
	// Ever comes to MaxEver in the midst of the first node, and the second one is held against it as far as it goes.
	one, other := logNode(0, 2, 380, 420, longLog(380, 50)...), longLog(390, 30)
	for at := range other {
		x := slices.Clone(other)
		x[at].Data = "other"
		wantRemembered(t, fmt.Sprint("full, and ", 391+at, " differs"), twoNodes(one, logNode(1, 2, 390, 415, x...), longLog(0, 385)...), 400, at < 10)
	}
	wantRemembered(t, "full, and Base is at its end", twoNodes(one, logNode(1, 2, 400, 405, longLog(400, 10)...), longLog(0, 385)...), 400, false)
	wantRemembered(t, "full, and Base is beyond it", twoNodes(one, logNode(1, 2, 401, 405, longLog(401, 10)...), longLog(0, 385)...), 400, true)
}

// It remembers behind the act: what that agreed on, and nothing of a node that fell by it.
func TestRememberingBehindTheAct(t *testing.T) {
	log := longLog(0, 6)
	c := twoNodes(logNode(0, 2, 0, 4, log...), logNode(1, 2, 0, 0, log...))
	c.Net = []impl.Msg{appMsg(0, 1, 9, 6, 1, 5), appMsg(1, 0, 9, 6, 1, 6), votedMsg(0, 1, 9, true)}
	want := func(a impl.Act, many int) {
		t.Helper()
		if got := wantCrewWords(t, "behind the act", c, a); got.code != 0 || !slices.Equal(got.c.Ever, log[:many]) || got.c.Split {
			t.Fatalf("%v: %s", a, got)
		}
	}
	want(impl.Act{Kind: impl.AcDeliver, A: 0}, 5)
	want(impl.Act{Kind: impl.AcDeliver, A: 1}, 6)
	want(impl.Act{Kind: impl.AcDeliver, A: 2}, 4)
	want(impl.Act{Kind: impl.AcLose, A: 0}, 4)
	want(impl.Act{Kind: impl.AcTwice, A: 0}, 4)
	want(impl.Act{Kind: impl.AcFall, A: 0}, 0)
	want(impl.Act{Kind: impl.AcFall, A: 1}, 4)
	want(impl.Act{Kind: impl.AcElect, A: 0}, 4)
	want(impl.Act{Kind: impl.AcBeat, A: 1}, 4)
	want(impl.Act{Kind: impl.AcRise, A: 1}, 4)
	want(impl.Act{Kind: impl.AcFuel, A: 1, B: 5}, 4)
	// A log that is put away ahead of being remembered is missing.
	got := wantCrewWords(t, "put away", c, impl.Act{Kind: impl.AcCompact})
	if !got.c.Split || len(got.c.Ever) > 0 {
		t.Errorf("put away: %s", got)
	}
	c.Ever = log[:4]
	want(impl.Act{Kind: impl.AcCompact}, 4)
}

// Split, once it is true, stays, whatever is done and whether all agrees or not.
func TestSplitStays(t *testing.T) {
	for _, c := range append(rightCrews(), twoNodes(logNode(0, 2, 0, 6, longLog(0, 6)...), logNode(1, 2, 0, 3, longLog(0, 6)...), longLog(0, 6)...)) {
		split := crewWith(c, func(c *impl.Crew) { c.Split = true })
		for _, a := range someActs() {
			one, other := wantCrewWords(t, "not split", c, a), wantCrewWords(t, "split", split, a)
			if !other.c.Split || one.c.Split || !slices.Equal(one.c.Ever, other.c.Ever) || one.code != other.code {
				t.Fatalf("%v: %s\nand split %s", a, one, other)
			}
		}
	}
}

// One node that leads itself: Ever grows up to MaxEver and no further, and then stays.
func TestEverComesToBeFull(t *testing.T) {
	c, _ := impl.NewCrew(1, impl.MaxRoom, impl.KdShard)
	c = wantCrewWords(t, "it leads", c, impl.Act{Kind: impl.AcElect}).c
	var full []impl.Entry
	for serial := 1; serial <= 420; serial++ {
		c.Net = []impl.Msg{callMsg(12, 0, serial, opText(raiseOp(serial)))}
		c, _ = impl.CrewDo(c, impl.Act{Kind: impl.AcDeliver})
		want := min(serial+1, 400)
		if !impl.CrewOk(c) || c.Nodes[0].Core.Commit != serial+1 || len(c.Ever) != want || c.Ever[want-1] != cmdEntry(1, 2, want-1, raiseOp(want-1)) || len(c.Net) != 1 || c.Net[0].Kind != impl.MsTold || c.Split {
			t.Fatalf("%d: %s", serial, crewAnswer{c: c})
		}
		if serial == 399 {
			full = slices.Clone(c.Ever)
		}
		if serial > 399 && !slices.Equal(c.Ever, full) {
			t.Fatalf("%d: %s", serial, crewAnswer{c: c})
		}
		if serial%25 == 0 && serial < 400 {
			c = wantCrewWords(t, "put away", c, impl.Act{Kind: impl.AcCompact}).c
		}
	}
	// What is put away beyond MaxEver was never remembered.
	got := wantCrewWords(t, "put away", c, impl.Act{Kind: impl.AcCompact})
	if !got.c.Split || !slices.Equal(got.c.Ever, full) {
		t.Errorf("put away: %s", got)
	}
}

// coreIn is a right core by chance of this Id and Peers.
func coreIn(r *rand.Rand, id, peers int) impl.Core {
	for {
		if c := rightCore(r); c.Id == id && c.Peers == peers {
			return c
		}
	}
}

// likeCore follows with the log of another one, agreed on and put away as far as may be by chance.
func likeCore(r *rand.Rand, c impl.Core, id int) impl.Core {
	x := impl.Core{Id: id, Peers: c.Peers, Term: c.Term, Vote: pick(r, -1, r.IntN(c.Peers)), Role: impl.RlFollow, Lead: -1, Base: c.Base, BaseTerm: c.BaseTerm, Log: slices.Clone(c.Log), Commit: c.Base + r.IntN(len(c.Log)+1)}
	if at := r.IntN(len(x.Log) + 1); len(x.Log) > 0 && r.IntN(6) == 0 {
		x.Log = x.Log[:at]
		x.Commit = min(x.Commit, slowLast(x))
	}
	if r.IntN(3) == 0 {
		x, _ = slowCompact(x, x.Base+r.IntN(x.Commit-x.Base+1))
	}
	if len(x.Log) > 0 && r.IntN(6) == 0 {
		x.Log[r.IntN(len(x.Log))].Data = "other"
	}
	giveRole(r, &x)
	return x
}

// nodeIn is a right node by chance with this core.
func nodeIn(r *rand.Rand, c impl.Core, kind int) impl.Node {
	n := upNode(c, shortState(r, kind), shortState(r, kind))
	if r.IntN(6) == 0 {
		n.Disk = grownDisk(r, n)
	}
	if r.IntN(8) == 0 {
		n.Disk.Room = slowBytes(n.Disk) + r.IntN(300)
	}
	if r.IntN(3) == 0 {
		n.Fuel, n.Keep, n.Cut = r.IntN(12), r.IntN(5), pick(r, 0, r.IntN(40), 1048576)
	}
	if r.IntN(8) == 0 {
		n = downNode(n)
		n.Disk = leftDisk(r, n.Disk)
	}
	return n
}

// someEver is what may be remembered of such a log by chance.
func someEver(r *rand.Rand, c impl.Core) []impl.Entry {
	many := pick(r, 0, c.Base, c.Commit, slowLast(c), c.Base+r.IntN(len(c.Log)+1), c.Base-1+r.IntN(3), 400, 399)
	var l []impl.Entry
	for number := 1; number <= min(many, 400); number++ {
		if number > c.Base && number <= slowLast(c) {
			l = append(l, c.Log[number-c.Base-1])
		} else {
			l = append(l, impl.Entry{Term: 1 + r.IntN(3), Data: "far"})
		}
	}
	if len(l) > 0 && r.IntN(6) == 0 {
		l[r.IntN(len(l))] = impl.Entry{Term: 1 + r.IntN(3), Data: pick(r, "", "a", "b")}
	}
	return l
}

// someNet is messages by chance that have to do with what the nodes have.
func someNet(r *rand.Rand, c impl.Crew) []impl.Msg {
	many := pick(r, 0, 1, 1+r.IntN(5), 1+r.IntN(5), 146+r.IntN(5))
	var l []impl.Msg
	for len(l) < many {
		m := nearNodeMsg(r, pick(r, c.Nodes...))
		if r.IntN(12) == 0 {
			m = toldMsg(r.IntN(len(c.Nodes)), 11+r.IntN(4), 1+r.IntN(5), toldText)
		}
		if many > 100 && len(l) > 8 {
			m = l[r.IntN(len(l))]
		}
		if impl.MsgOk(m) && (m.From < len(c.Nodes) || m.From > 10) {
			l = append(l, m)
		}
	}
	return l
}

// rightCrew is a right crew by chance.
func rightCrew(r *rand.Rand) impl.Crew {
	return crewOf(r, 1+r.IntN(5), 1+r.IntN(2))
}

// crewOf is a right crew of nodes that have to do with each other and of some that have not.
func crewOf(r *rand.Rand, peers, kind int) impl.Crew {
	first := coreIn(r, 0, peers)
	c := impl.Crew{Nodes: []impl.Node{nodeIn(r, first, kind)}, Ever: someEver(r, first), Split: r.IntN(8) == 0}
	for id := 1; id < peers; id++ {
		core := coreIn(r, id, peers)
		if r.IntN(5) > 0 {
			core = likeCore(r, first, id)
		}
		c.Nodes = append(c.Nodes, nodeIn(r, core, kind))
	}
	c.Net = someNet(r, c)
	return c
}

// someAct is an act by chance, mostly a message.
func someAct(r *rand.Rand, c impl.Crew) impl.Act {
	kind := pick(r, 1, 1, 2, 2, 3, 4, 5, 6, 6, 7, 7, 7, 7, 7, 7, 7, 8, 9, r.IntN(12)-1)
	many := len(c.Nodes)
	if kind > 6 {
		many = len(c.Net)
	}
	at := r.IntN(many + 1)
	if r.IntN(10) > 0 {
		at = min(at, max(0, many-1))
	}
	return impl.Act{Kind: kind, G: r.IntN(3), A: pick(r, at, at, at, at, at, at, at, at, at, -1), B: r.IntN(14) - 1, C: r.IntN(5) - 1, D: pick(r, 0, r.IntN(60), 1048576)}
}

// actCame says in words what an act came to.
func actCame(c impl.Crew, a impl.Act, got crewAnswer) []string {
	l := []string{fmt.Sprint(a.Kind, " code ", got.code)}
	if got.code > 0 {
		return l
	}
	if len(got.c.Ever) > len(c.Ever) {
		l = append(l, fmt.Sprint(a.Kind, " remembers"))
	}
	if got.c.Split != c.Split {
		l = append(l, fmt.Sprint(a.Kind, " splits"))
	}
	if len(got.c.Net) > len(c.Net) {
		l = append(l, fmt.Sprint(a.Kind, " sends"))
	}
	if len(got.c.Net) == 150 {
		l = append(l, fmt.Sprint(a.Kind, " fills Net"))
	}
	for i, n := range got.c.Nodes {
		if n.Up != c.Nodes[i].Up {
			l = append(l, fmt.Sprint(a.Kind, " up ", n.Up))
		}
	}
	return l
}

func TestCrewsByChance(t *testing.T) {
	r := rand.New(rand.NewPCG(19, 1))
	came := map[string]int{}
	for range 5000 {
		c := rightCrew(r)
		wantCrewOk(t, "by chance", c, true)
		a := someAct(r, c)
		for _, x := range actCame(c, a, wantCrewWords(t, "by chance", c, a)) {
			came[x]++
		}
	}
	for kind := 1; kind <= 9; kind++ {
		for _, x := range []string{"code 0", "code 2", "remembers", "splits", "fills Net"} {
			if came[fmt.Sprint(kind, " ", x)] < 3 && (kind != impl.AcLose || x != "fills Net") {
				t.Errorf("Kind %d %s: %d times", kind, x, came[fmt.Sprint(kind, " ", x)])
			}
		}
	}
	for _, x := range []string{"-1 code 1", "0 code 1", "10 code 1", "7 code 3", "1 sends", "2 sends", "7 sends", "9 sends", "1 up false", "3 up false", "5 up false", "6 up true", "7 up false"} {
		if came[x] < 3 {
			t.Errorf("%s: %d times", x, came[x])
		}
	}
}

// turnCrew puts something by chance, often at an edge, in the place of a part.
func turnCrew(r *rand.Rand, c *impl.Crew) {
	switch r.IntN(9) {
	case 0, 1:
		turnNode(r, &c.Nodes[r.IntN(len(c.Nodes))])
	case 2:
		if m := someMsg(r); len(c.Net) > 0 && r.IntN(2) == 0 {
			c.Net[r.IntN(len(c.Net))] = m
		} else {
			c.Net = append(c.Net, m)
		}
	case 3:
		if len(c.Net) > 0 {
			turnMsg(r, &c.Net[r.IntN(len(c.Net))])
		}
	case 4:
		if len(c.Ever) > 0 {
			c.Ever[r.IntN(len(c.Ever))] = impl.Entry{Term: pick(r, -1, 0, 1, 99999, 100000, 100001), Data: strings.Repeat("e", pick(r, 0, 899, 900, 901))}
		}
	case 5:
		c.Ever = sameEntries(pick(r, 0, 1, 399, 400, 401), 1, "")
	case 6:
		c.Net = slices.Repeat([]impl.Msg{rightMsg(r)}, pick(r, 0, 1, 149, 150, 151))
	case 7:
		id := r.IntN(len(c.Nodes))
		c.Nodes[id] = freshNode(pick(r, id, id, (id+1)%len(c.Nodes)), len(c.Nodes), pick(r, c.Nodes[id].Kind, c.Nodes[id].Kind, 1, 2))
	case 8:
		if many := len(c.Nodes); r.IntN(2) == 0 {
			c.Nodes = append(c.Nodes, rightNode(r))
		} else if many > 1 {
			c.Nodes = c.Nodes[:many-1]
		}
	}
}

func TestCrewOkAgainstTheWords(t *testing.T) {
	r := rand.New(rand.NewPCG(19, 2))
	right, not := 0, 0
	for range 4000 {
		c := rightCrew(r)
		for range pick(r, 1, 1, 1, 2) {
			turnCrew(r, &c)
		}
		ok := slowCrewOk(c)
		wantCrewOk(t, "turned", c, ok)
		if ok {
			right++
		} else {
			not++
		}
	}
	if right < 500 || not < 1000 {
		t.Errorf("%d right, %d not", right, not)
	}
}

// A crewRun is a crew that acts are done to, with clients that ask it one thing behind the other.
type crewRun struct {
	t       *testing.T
	r       *rand.Rand
	c       impl.Crew
	serials [5]int
	told    int
	lost    int
}

func newCrewRun(t *testing.T, r *rand.Rand, peers, room, kind int) *crewRun {
	c, ok := impl.NewCrew(peers, room, kind)
	if !ok {
		t.Fatalf("no crew of %d, %d, %d", peers, room, kind)
	}
	return &crewRun{t: t, r: r, c: c, serials: [5]int{1, 1, 1, 1, 1}}
}

// do has it happen, and looks at what it came to; now and then it is held against the words.
func (x *crewRun) do(a impl.Act) {
	x.t.Helper()
	var got crewAnswer
	if x.r.IntN(8) == 0 {
		got = wantCrewWords(x.t, "a run", x.c, a)
	} else {
		got = doneAct(x.c, a)
		wantCrewPromise(x.t, "a run", x.c, got)
	}
	if got.code == 3 {
		x.hear(a.A)
		return
	}
	if len(got.c.Net) == 150 && len(x.c.Net) > 146 && a.Kind < 8 {
		x.lost++
	}
	x.c = got.c
	x.look()
}

// hear has a client take a message, and go on with its next call if it is told of the last one.
func (x *crewRun) hear(at int) {
	m := x.c.Net[at]
	x.c.Net = slices.Delete(slices.Clone(x.c.Net), at, at+1)
	if client := m.To - 10; m.Index == x.serials[client] {
		x.serials[client]++
		x.told++
	}
}

func (x *crewRun) ask(to int) {
	client := 1 + x.r.IntN(4)
	m := callMsg(10+client, to, x.serials[client], opText(nearOp(x.r, x.c.Nodes[0].Kind)))
	if len(x.c.Net) < 150 && impl.MsgOk(m) {
		x.c.Net = append(slices.Clone(x.c.Net), m)
	}
}

// look wants one log: no Split, and of each node that is up just what is remembered.
func (x *crewRun) look() {
	x.t.Helper()
	if x.c.Split {
		x.t.Fatalf("two entries at one number: %s", crewAnswer{c: x.c})
	}
	most := 0
	for _, n := range x.c.Nodes {
		if !n.Up {
			continue
		}
		most = max(most, n.Core.Commit)
		if n.Core.Commit > len(x.c.Ever) || !slices.Equal(n.Core.Log[:n.Core.Commit-n.Core.Base], x.c.Ever[n.Core.Base:n.Core.Commit]) {
			x.t.Fatalf("node %d has agreed on what is not remembered: %s", n.Id, crewAnswer{c: x.c})
		}
	}
	if most > len(x.c.Ever) {
		x.t.Fatalf("%d are agreed on: %s", most, crewAnswer{c: x.c})
	}
}

// step is one thing by chance; where Net is to be full, those ahead in it stay there.
func (x *crewRun) step(full bool) {
	r := x.r
	lead := slices.IndexFunc(x.c.Nodes, func(n impl.Node) bool { return n.Up && n.Core.Role == impl.RlLead })
	switch r.IntN(8) {
	case 0:
		x.do(someAct(r, x.c))
	case 1:
		if lead >= 0 {
			x.ask(lead)
		} else {
			x.do(impl.Act{Kind: impl.AcElect, A: r.IntN(len(x.c.Nodes))})
		}
	case 2:
		x.do(impl.Act{Kind: pick(r, impl.AcRise, impl.AcBeat), A: r.IntN(len(x.c.Nodes))})
	default:
		at := pick(r, 0, r.IntN(len(x.c.Net)+1))
		if full {
			at = max(0, len(x.c.Net)-1-r.IntN(12))
		}
		x.do(impl.Act{Kind: impl.AcDeliver, A: at})
	}
}

// From a new crew on, whatever is done to it: it is right, Ever grows, and there is one log.
func TestRunsOfCrews(t *testing.T) {
	r := rand.New(rand.NewPCG(19, 3))
	ever, told, lost := 0, 0, 0
	for run := range 60 {
		x := newCrewRun(t, r, 1+run%5, pick(r, impl.MaxRoom, impl.MaxRoom, impl.MaxRoom, 900, 2000), 1+run/5%2)
		if run%3 == 0 {
			x.c.Net = slices.Repeat([]impl.Msg{toldMsg(0, 14, 1000, toldText)}, 140)
		}
		for range 400 {
			x.step(run%3 == 0)
		}
		ever, told, lost = ever+len(x.c.Ever), told+x.told, lost+x.lost
	}
	if ever < 500 || told < 200 || lost < 100 {
		t.Errorf("%d entries are remembered, %d calls were told, %d times messages may have been lost", ever, told, lost)
	}
}

// Crews that were not led to by acts: nothing is wanted of them but to stay right, and of Ever to grow.
func TestCrewsThatGoOnByChance(t *testing.T) {
	r := rand.New(rand.NewPCG(19, 4))
	for range 60 {
		c := rightCrew(r)
		for range 40 {
			a := someAct(r, c)
			got := doneAct(c, a)
			wantCrewPromise(t, "on and on", c, got)
			if r.IntN(6) == 0 {
				wantCrewWords(t, "on and on", c, a)
			}
			c = got.c
		}
	}
}

// spareCrew is the crew with room behind each list, what stands there, and texts of its own.
func spareCrew(c impl.Crew) impl.Crew {
	x := impl.Crew{Ever: spareMsg(impl.Msg{Entries: c.Ever}).Entries, Split: c.Split}
	for _, n := range append(slices.Clone(c.Nodes), impl.Node{}, impl.Node{}) {
		x.Nodes = append(x.Nodes, spareNode(n))
	}
	for _, m := range append(slices.Clone(c.Net), impl.Msg{}, impl.Msg{}) {
		x.Net = append(x.Net, spareMsg(m))
	}
	x.Nodes[len(c.Nodes)].Id, x.Nodes[len(c.Nodes)+1].Id = 77, 78
	x.Net[len(c.Net)].Kind, x.Net[len(c.Net)+1].Kind = 77, 78
	x.Nodes, x.Net = x.Nodes[:len(c.Nodes)], x.Net[:len(c.Net)]
	return x
}

// sameCrewWithRoom asks whether the crew, and what stands behind its lists, are as spareCrew made them.
func sameCrewWithRoom(a, b impl.Crew) bool {
	all := func(c impl.Crew) impl.Crew {
		c.Nodes, c.Net, c.Ever = c.Nodes[:len(c.Nodes)+2], c.Net[:len(c.Net)+2], c.Ever[:len(c.Ever)+2]
		return c
	}
	a, b = all(a), all(b)
	entries := func(a, b impl.Msg) bool {
		return sameMsg(a, b) && slices.Equal(a.Entries[:len(a.Entries)+2], b.Entries[:len(b.Entries)+2])
	}
	return slices.EqualFunc(a.Nodes, b.Nodes, sameNodeWithRoom) && slices.EqualFunc(a.Net, b.Net, entries) && slices.Equal(a.Ever, b.Ever) && a.Split == b.Split
}

func textsInCrew(c impl.Crew) []string {
	l := textsInMsg(impl.Msg{Entries: c.Ever})
	for _, n := range c.Nodes {
		l = append(l, textsInNode(n)...)
	}
	for _, m := range c.Net {
		l = append(l, textsInMsg(m)...)
	}
	return l
}

// crewSpoilers each write over one list of the crew, or over one part of it whose lists are held apart elsewhere; those in which others stand come last.
func crewSpoilers(c impl.Crew) []func() {
	l := []func(){func() { spoilEntries(c.Ever) }}
	for _, n := range c.Nodes {
		l = append(l, nodeSpoilers(nodeAnswer{n: n})...)
	}
	for _, m := range c.Net {
		l = append(l, func() { spoilEntries(m.Entries) })
	}
	return append(l, func() {
		for i := range c.Nodes[:cap(c.Nodes)] {
			c.Nodes[:cap(c.Nodes)][i] = impl.Node{Id: 99}
		}
	}, func() {
		for i := range c.Net[:cap(c.Net)] {
			c.Net[:cap(c.Net)][i] = impl.Msg{Kind: 99}
		}
	})
}

// crewLists are the same lists, each as a text.
func crewLists(c impl.Crew) []string {
	var ids, kinds []int
	l := []string{fmt.Sprint(c.Ever)}
	for _, n := range c.Nodes {
		l = append(l, nodeLists(nodeAnswer{n: n})...)
		ids = append(ids, n.Id, n.Fuel, n.Core.Term)
	}
	for _, m := range c.Net {
		l = append(l, fmt.Sprint(m.Entries))
		kinds = append(kinds, m.Kind, m.From, m.To)
	}
	return append(l, fmt.Sprint(ids), fmt.Sprint(kinds))
}

// wantCrewApart wants no list of the answer, which it writes over, to share memory with another one of it, and no text with another text.
func wantCrewApart(t *testing.T, name string, c impl.Crew) {
	t.Helper()
	texts := textsInCrew(c)
	for i, text := range texts {
		wantNewTexts(t, name, []string{text}, texts[:i])
	}
	ahead, spoilers := crewLists(c), crewSpoilers(c)
	if len(ahead) != len(spoilers) {
		t.Fatalf("%s: %d lists, %d are written over", name, len(ahead), len(spoilers))
	}
	for i, spoil := range spoilers {
		if crewLists(c)[i] != ahead[i] {
			t.Fatalf("%s: list %d of the answer shares memory with one ahead of it", name, i)
		}
		spoil()
	}
}

// memoryCrews hand back all kinds of lists, with what is agreed on by the next act, and some are not right.
func memoryCrews() []impl.Crew {
	news := crewWith(busyCrew(impl.KdShard), func(c *impl.Crew) { c.Ever = everUpTo(7) })
	alone := callsLeadAlone()
	alone.Net = []impl.Msg{callMsg(11, 0, 1, flushText)}
	full := crewWith(fiveLed(), func(c *impl.Crew) { c.Net = slices.Repeat([]impl.Msg{appMsg(2, 0, 3, 2, 3, 1)}, 149) })
	return []impl.Crew{busyCrew(impl.KdMeta), news, withDown(busyCrew(impl.KdShard), 1), freshCrew(5, 2), alone, full, twoNodes(logNode(0, 2, 0, 5, longLog(0, 6)...), logNode(1, 2, 0, 6, longLog(0, 6)...)), {}, crewWith(busyCrew(impl.KdMeta), func(c *impl.Crew) { c.Nodes[1].Id = 2 })}
}

func memoryActs(c impl.Crew) []impl.Act {
	l := []impl.Act{{Kind: 0}, {Kind: 1, A: 9}, stillAct()}
	for kind := impl.AcElect; kind <= impl.AcRise; kind++ {
		for id := range c.Nodes {
			l = append(l, impl.Act{Kind: kind, A: id, B: 1, C: 2, D: 3})
		}
	}
	for at := range min(len(c.Net), 12) {
		l = append(l, impl.Act{Kind: impl.AcDeliver, A: at}, impl.Act{Kind: impl.AcLose, A: at}, impl.Act{Kind: impl.AcTwice, A: at})
	}
	return l
}

func TestCrewAnswersNewMemory(t *testing.T) {
	for _, x := range memoryCrews() {
		ahead := spareCrew(x)
		for _, a := range memoryActs(x) {
			c := spareCrew(x)
			want := slowCrewDo(x, a)
			first, second := doneAct(c, a), doneAct(c, a)
			name := fmt.Sprint("an act of kind ", a.Kind)
			wantNewTexts(t, name, textsInCrew(first.c), slices.Concat(textsInCrew(second.c), textsInCrew(c)))
			for _, spoil := range crewSpoilers(second.c) {
				spoil()
			}
			if !sameCrewWithRoom(c, ahead) {
				t.Fatalf("%s wrote into %s, or its answer is part of it: %s", name, crewAnswer{c: x}, crewAnswer{c: c})
			}
			for _, spoil := range crewSpoilers(c) {
				spoil()
			}
			if !sameCrewAnswer(first, want) {
				t.Fatalf("%s of %s\nhangs on its argument, or on another answer: %s", name, crewAnswer{c: x}, first)
			}
			wantCrewApart(t, name, doneAct(spareCrew(x), a).c)
		}
	}
	one, _ := impl.NewCrew(3, 100, impl.KdShard)
	other, _ := impl.NewCrew(3, 100, impl.KdShard)
	wantNewTexts(t, "NewCrew", textsInCrew(one), textsInCrew(other))
	wantCrewApart(t, "NewCrew", other)
	if again, _ := impl.NewCrew(3, 100, impl.KdShard); !sameCrew(one, again) {
		t.Errorf("NewCrew hangs on another answer: %s", crewAnswer{c: one})
	}
}

// Nothing is kept from one call to another: what is asked again is answered again.
func TestCrewsAreAskedAgain(t *testing.T) {
	r := rand.New(rand.NewPCG(19, 5))
	for range 300 {
		c := rightCrew(r)
		a := someAct(r, c)
		first := doneAct(c, a)
		other := rightCrew(r)
		doneAct(other, someAct(r, other))
		if again := doneAct(c, a); !sameCrewAnswer(first, again) {
			t.Fatalf("%v of %s\n= %s\nand then %s", a, crewAnswer{c: c}, first, again)
		}
	}
}

// Asked at one time by many, each is answered as if it were alone, and nobody who helped is left behind.
func TestCrewsAskedAtOneTime(t *testing.T) {
	c := crewWith(fiveLed(), func(c *impl.Crew) { c.Net = numberedNet(150, 0) })
	want := slowCrewDo(c, impl.Act{Kind: impl.AcBeat, A: 2})
	ahead := runtime.NumGoroutine()
	var all sync.WaitGroup
	same := make([]bool, 40)
	for i := range same {
		all.Go(func() {
			same[i] = impl.CrewOk(c) && sameCrewAnswer(doneAct(c, impl.Act{Kind: impl.AcBeat, A: 2}), want)
		})
	}
	all.Wait()
	if slices.Contains(same, false) {
		t.Errorf("%v", same)
	}
	for range 100000 {
		if runtime.NumGoroutine() <= ahead {
			return
		}
		runtime.Gosched()
	}
	t.Errorf("%d goroutines, %d ahead", runtime.NumGoroutine(), ahead)
}

func TestCrewsAnswerAtEveryArgument(t *testing.T) {
	long := strings.Repeat("a", 100000)
	numbers := []int{math.MinInt, -1, 0, math.MaxInt}
	for _, c := range memoryCrews() {
		for _, i := range numbers {
			for kind := -1; kind <= 11; kind++ {
				wantCrewWords(t, "anywhere", c, impl.Act{Kind: kind, G: i, A: i, B: i, C: i, D: i, Call: impl.Call{Kind: i, Key: long, From: i, To: i, Data: long}})
				wantCrewWords(t, "anywhere", c, impl.Act{Kind: kind, B: i, C: i, D: i})
			}
			wantCrewWords(t, "anywhere", c, impl.Act{Kind: i, A: i})
			impl.NewCrew(i, i, i)
			far := crewWith(c, func(c *impl.Crew) {
				c.Net = append(c.Net, impl.Msg{Kind: i, From: i, To: i, Term: i, Index: i, IndexTerm: i, Commit: i, Entries: sameEntries(3, i, "x"), Data: "x"})
			})
			wantCrewOk(t, "far too much", far, false)
			far = crewWith(c, func(c *impl.Crew) { c.Nodes = append(c.Nodes, impl.Node{Id: i, Peers: i, Kind: i, Up: true, Fuel: i}) })
			wantCrewOk(t, "far too much", far, false)
		}
		wantCrewOk(t, "far too long", crewWith(c, func(c *impl.Crew) { c.Ever = oneEntry(1, long) }), false)
		wantCrewOk(t, "far too many", crewWith(c, func(c *impl.Crew) { c.Ever = make([]impl.Entry, 100000) }), false)
	}
}
