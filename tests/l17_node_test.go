package tests

import (
	"fmt"
	"math"
	"math/rand/v2"
	"slices"
	"strings"
	"testing"

	"loop.example/g00360/impl"
)

// Promise 17: a right node stays right, whatever happens to it; nothing is said that is not safe: behind what it said yes to, power may fall at once, and it rises with its Term, Vote and log; falling at any step, it rises with the old log and Snap, the new ones, the new Snap with the old log, or the old log with a beginning of the changes, and has said nothing.
// Promise 18: putting its log away changes neither a node's state nor its Commit; it rises with that state.

// The slow functions do the document's words step by step, to be held against the program.

func slowZeroCore(c impl.Core) bool {
	return sameCore(c, impl.Core{})
}

// slowStateFor is the state of this kind whose text it is.
func slowStateFor(kind int, text string) (impl.State, bool) {
	s, ok := slowReadState(text)
	return s, ok && s.Kind == kind
}

func slowUpOk(n impl.Node) bool {
	if !slowCoreOk(n.Core) || n.Core.Id != n.Id || n.Core.Peers != n.Peers || !slowStateOk(n.State) || n.State.Kind != n.Kind || !slowSnapOk(n.Snap) || n.Snap.Index != n.Core.Base || n.Snap.Term != n.Core.BaseTerm {
		return false
	}
	if _, ok := slowStateFor(n.Kind, n.Snap.Data); !ok && n.Snap != (impl.Snap{}) {
		return false
	}
	k, code := slowRecover(n.Disk)
	return code == 0 && sameKept(k, impl.Kept{Wal: slowWalOf(n.Core), Snap: n.Snap})
}

func slowNodeOk(n impl.Node) bool {
	if !within(n.Peers, 1, 5) || !within(n.Id, 0, n.Peers-1) || !within(n.Kind, 1, 2) || !slowRight(n.Disk) || !within(n.Fuel, -1, 100) || !within(n.Keep, 0, 20) || !within(n.Cut, 0, 1048576) {
		return false
	}
	if n.Fuel == -1 && (n.Keep != 0 || n.Cut != 0) {
		return false
	}
	if n.Up {
		return slowUpOk(n)
	}
	return n.Fuel == -1 && slowZeroCore(n.Core) && sameState(n.State, impl.State{}) && n.Snap == (impl.Snap{})
}

func slowDown(n impl.Node) impl.Node {
	var cuts []int
	for range n.Disk.Inodes {
		cuts = append(cuts, n.Cut)
	}
	return impl.Node{Id: n.Id, Peers: n.Peers, Kind: n.Kind, Disk: slowCrash(n.Disk, n.Keep, cuts), Fuel: -1}
}

// slowWrite does one step behind the other; false where it goes down by that.
func slowWrite(n impl.Node, steps []impl.Step) (impl.Node, bool) {
	for _, s := range steps {
		if n.Fuel == 0 {
			return slowDown(n), false
		}
		d, _, code := slowDoSteps(n.Disk, []impl.Step{s}, 1)
		n.Disk = d
		if code != impl.DkOk {
			return slowDown(n), false
		}
		if n.Fuel > 0 {
			n.Fuel--
		}
	}
	return n, true
}

func slowTold(id, client, serial int, a impl.Answer) impl.Msg {
	return toldMsg(id, 10+client, serial, strings.Join(answerParts(a), ""))
}

// slowBecome is what the node becomes with the core; m is the message from which a new Base comes.
func slowBecome(n impl.Node, c impl.Core, said []impl.Msg, m impl.Msg) nodeAnswer {
	steps, snap, state, served := slowPlanAdd(slowWalOf(n.Core), slowWalOf(c)), n.Snap, n.State, n.Core.Commit
	if c.Base != n.Core.Base {
		snap = impl.Snap{Index: m.Index, Term: m.IndexTerm, Data: m.Data}
		state, _ = slowReadState(m.Data)
		served = c.Base
		steps = slowPlanSnap(n.Disk, snap, slowWalOf(c))
	}
	n, all := slowWrite(n, steps)
	if !all {
		return nodeAnswer{n: n}
	}
	n.Core, n.Snap, n.State = c, snap, state
	var l []impl.Msg
	for _, x := range said {
		if x.Kind == 5 {
			x.Data = snap.Data
		}
		l = append(l, x)
	}
	for number := served + 1; number <= c.Commit; number++ {
		n, l = slowServed(n, number, l)
	}
	return nodeAnswer{n: n, said: l}
}

func slowServed(n impl.Node, number int, said []impl.Msg) (impl.Node, []impl.Msg) {
	x, ok := slowReadCmd(n.Core.Log[number-n.Core.Base-1].Data)
	if !ok {
		return n, said
	}
	last := slowSession(n.State, x.Client).Serial
	state, a, did := slowServe(n.State, served{x.Client, x.Serial, x.Op, number})
	n.State = state
	if n.Core.Role == 3 && (did || x.Serial == last) {
		said = append(said, slowTold(n.Id, x.Client, x.Serial, a))
	}
	return n, said
}

func slowFuel(n impl.Node, fuel, keep, cut int) nodeAnswer {
	if !n.Up || !within(fuel, 0, 100) || !within(keep, 0, 20) || !within(cut, 0, 1048576) {
		return nodeAnswer{n: n}
	}
	n.Fuel, n.Keep, n.Cut = fuel, keep, cut
	return nodeAnswer{n: n, ok: true}
}

func slowFall(n impl.Node, keep, cut int) nodeAnswer {
	if n.Up {
		n.Keep, n.Cut = keep, cut
		n = slowDown(n)
	}
	return nodeAnswer{n: n}
}

func slowRise(n impl.Node) nodeAnswer {
	if n.Up {
		return nodeAnswer{n: n}
	}
	k, code := slowRecover(n.Disk)
	none := code == 1 && !slowHas(n.Disk, "snap")
	if none {
		k = impl.Kept{Wal: impl.Wal{Vote: -1}}
	}
	c := impl.Core{Id: n.Id, Peers: n.Peers, Term: k.Wal.Term, Vote: k.Wal.Vote, Role: 1, Lead: -1, Base: k.Wal.Base, BaseTerm: k.Wal.BaseTerm, Log: k.Wal.Entries, Commit: k.Wal.Base}
	state, right := impl.State{Kind: n.Kind}, true
	if k.Snap != (impl.Snap{}) {
		state, right = slowStateFor(n.Kind, k.Snap.Data)
	}
	if code != 0 && !none || !slowCoreOk(c) || !right {
		return nodeAnswer{n: n}
	}
	if none || k.Dirty {
		var steps []impl.Step
		if slowHas(n.Disk, "snap.new") {
			steps = append(steps, impl.Step{Kind: impl.StDrop, Name: "snap.new"})
		}
		steps = append(steps, slowPlanLog(n.Disk, k.Wal)...)
		d, done, _ := slowDoSteps(n.Disk, steps, 20)
		n.Disk = d
		if done < len(steps) {
			return nodeAnswer{n: n}
		}
	}
	n.Up, n.Core, n.Snap, n.State = true, c, k.Snap, state
	return nodeAnswer{n: n, ok: true}
}

func slowNodeCompact(n impl.Node) nodeAnswer {
	c, ok := slowCompact(n.Core, n.Core.Commit)
	if !n.Up || !ok {
		return nodeAnswer{n: n}
	}
	snap := impl.Snap{Index: n.Core.Commit, Term: slowTermAt(n.Core, n.Core.Commit), Data: imageOf(n.State).text()}
	n, all := slowWrite(n, slowPlanSnap(n.Disk, snap, slowWalOf(c)))
	if all {
		n.Core, n.Snap = c, snap
	}
	return nodeAnswer{n: n, ok: all}
}

func slowNodeHear(n impl.Node, m impl.Msg) nodeAnswer {
	as := nodeAnswer{n: n}
	if !n.Up || !slowMsgOk(m) || m.To != n.Id {
		return as
	}
	switch {
	case m.Kind == 6:
		return slowHearCall(n, m)
	case m.Kind > 6:
		return as
	case m.Kind == 5:
		if _, ok := slowStateFor(n.Kind, m.Data); !ok {
			return as
		}
	}
	c, said := slowHear(n.Core, m)
	return slowBecome(n, c, said, m)
}

func slowHearCall(n impl.Node, m impl.Msg) nodeAnswer {
	op, _ := slowReadOp(m.Data)
	x := impl.Cmd{Client: m.From - 10, Serial: m.Index, Op: op}
	last := slowSession(n.State, x.Client)
	if last.Serial == x.Serial {
		return nodeAnswer{n: n, said: []impl.Msg{slowTold(n.Id, x.Client, x.Serial, last.Answer)}}
	}
	if last.Serial+1 != x.Serial || n.Core.Role != 3 {
		return nodeAnswer{n: n}
	}
	for number := n.Core.Commit + 1; number <= slowLast(n.Core); number++ {
		if y, ok := slowReadCmd(n.Core.Log[number-n.Core.Base-1].Data); ok && y.Client == x.Client && y.Serial == x.Serial {
			return nodeAnswer{n: n}
		}
	}
	c, said, number := slowPropose(copyCore(n.Core), strings.Join(cmdParts(x), ""))
	if number == 0 {
		return nodeAnswer{n: n}
	}
	return slowBecome(n, c, said, impl.Msg{})
}

func copyNode(n impl.Node) impl.Node {
	n.Core, n.State, n.Disk = copyCore(n.Core), copyState(n.State), copyDisk(n.Disk)
	return n
}

func sameNode(a, b impl.Node) bool {
	return a.Id == b.Id && a.Peers == b.Peers && a.Kind == b.Kind && a.Up == b.Up && a.Snap == b.Snap && a.Fuel == b.Fuel && a.Keep == b.Keep && a.Cut == b.Cut && sameCore(a.Core, b.Core) && sameState(a.State, b.State) && sameDisk(a.Disk, b.Disk)
}

// A nodeAnswer is all that a call on a node may answer; what a call does not answer is zero.
type nodeAnswer struct {
	n    impl.Node
	said []impl.Msg
	ok   bool
}

func sameNodeAnswer(a, b nodeAnswer) bool {
	return sameNode(a.n, b.n) && slices.EqualFunc(a.said, b.said, sameMsg) && a.ok == b.ok
}

// A nodeCall is a call on a node, as the program does it and as the words say; the words are asked of a right node only, and may write into it.
type nodeCall struct {
	name string
	do   func(n impl.Node) nodeAnswer
	slow func(n impl.Node) nodeAnswer
}

func fuelCall(fuel, keep, cut int) nodeCall {
	return nodeCall{fmt.Sprint("NodeFuel ", fuel, " ", keep, " ", cut), func(n impl.Node) nodeAnswer {
		x, ok := impl.NodeFuel(n, fuel, keep, cut)
		return nodeAnswer{n: x, ok: ok}
	}, func(n impl.Node) nodeAnswer { return slowFuel(n, fuel, keep, cut) }}
}

func fallCall(keep, cut int) nodeCall {
	return nodeCall{fmt.Sprint("NodeFall ", keep, " ", cut), func(n impl.Node) nodeAnswer { return nodeAnswer{n: impl.NodeFall(n, keep, cut)} }, func(n impl.Node) nodeAnswer { return slowFall(n, keep, cut) }}
}

func riseCall() nodeCall {
	return nodeCall{"NodeRise", func(n impl.Node) nodeAnswer {
		x, ok := impl.NodeRise(n)
		return nodeAnswer{n: x, ok: ok}
	}, slowRise}
}

func nodeElectCall() nodeCall {
	return nodeCall{"NodeElect", func(n impl.Node) nodeAnswer {
		x, said := impl.NodeElect(n)
		return nodeAnswer{n: x, said: said}
	}, func(n impl.Node) nodeAnswer {
		if !n.Up {
			return nodeAnswer{n: n}
		}
		c, said := slowElect(copyCore(n.Core))
		return slowBecome(n, c, said, impl.Msg{})
	}}
}

func nodeBeatCall() nodeCall {
	return nodeCall{"NodeBeat", func(n impl.Node) nodeAnswer {
		x, said := impl.NodeBeat(n)
		return nodeAnswer{n: x, said: said}
	}, func(n impl.Node) nodeAnswer {
		if !n.Up || n.Core.Role != 3 {
			return nodeAnswer{n: n}
		}
		return slowBecome(n, n.Core, slowSendAll(n.Core), impl.Msg{})
	}}
}

func nodeCompactCall() nodeCall {
	return nodeCall{"NodeCompact", func(n impl.Node) nodeAnswer {
		x, ok := impl.NodeCompact(n)
		return nodeAnswer{n: x, ok: ok}
	}, slowNodeCompact}
}

func nodeHearCall(m impl.Msg) nodeCall {
	return nodeCall{"NodeHear of " + brief(m), func(n impl.Node) nodeAnswer {
		x, said := impl.NodeHear(n, m)
		return nodeAnswer{n: x, said: said}
	}, func(n impl.Node) nodeAnswer {
		n.Core = copyCore(n.Core)
		return slowNodeHear(n, m)
	}}
}

// nodeAsSaid is what the words answer; the zero answer of a node that is not right.
func nodeAsSaid(call nodeCall, n impl.Node) nodeAnswer {
	if !slowNodeOk(n) {
		return nodeAnswer{}
	}
	return call.slow(copyNode(n))
}

// isSafe asks whether all that the disk has is safe.
func isSafe(d impl.Disk) bool {
	return len(d.Moves) == 0 && !slices.ContainsFunc(d.Inodes, func(n impl.Inode) bool { return n.Sure < len(n.Data) })
}

// wantRises wants a node that is Up, and all of whose disk was safe, to rise with its Term, Vote and log, and with the state of its Snap, whatever a fall takes.
func wantRises(t *testing.T, name string, n impl.Node, keep, cut int) impl.Node {
	t.Helper()
	down := impl.NodeFall(n, keep, cut)
	if down.Up || !impl.NodeOk(down) {
		t.Fatalf("%s: %s\nfell to %s", name, brief(n), brief(down))
	}
	x, ok := impl.NodeRise(down)
	want := impl.Core{Id: n.Id, Peers: n.Peers, Term: n.Core.Term, Vote: n.Core.Vote, Role: 1, Lead: -1, Base: n.Core.Base, BaseTerm: n.Core.BaseTerm, Log: n.Core.Log, Commit: n.Core.Base}
	if !ok || !x.Up || !sameCore(x.Core, want) || x.Snap != n.Snap || x.Kind != n.Kind || x.Fuel != -1 || x.Keep != 0 || x.Cut != 0 {
		t.Fatalf("%s: %s\nfell with %d, %d, and rises as %s", name, brief(n), keep, cut, brief(x))
	}
	state := impl.State{Kind: n.Kind}
	if n.Snap != (impl.Snap{}) {
		state, _ = impl.ReadState(n.Snap.Data)
	}
	if !sameState(x.State, state) || !impl.NodeOk(x) {
		t.Fatalf("%s: %s\nrises with the state %s", name, brief(n), brief(x.State))
	}
	return x
}

// wantNodePromise wants of a right node behind a call that it is right, that it says nothing unless it is Up, only right messages of its own, and nothing that is not safe.
func wantNodePromise(t *testing.T, name string, n impl.Node, got nodeAnswer) {
	t.Helper()
	x := got.n
	if !impl.NodeOk(x) || x.Id != n.Id || x.Peers != n.Peers || x.Kind != n.Kind {
		t.Fatalf("%s: %s\nbecame %s, that is not right", name, brief(n), brief(x))
	}
	if !x.Up && len(got.said) > 0 {
		t.Fatalf("%s: %s\nis down and says %s", name, brief(n), brief(got.said))
	}
	told := false
	for _, m := range got.said {
		if !impl.MsgOk(m) || m.From != n.Id || m.Kind < 6 && (m.To >= n.Peers || m.Term != x.Core.Term) || m.Kind == 6 {
			t.Fatalf("%s: %s\nsays %s", name, brief(n), brief(m))
		}
		if told && m.Kind != 7 {
			t.Fatalf("%s: %s\ntells a client ahead of %s", name, brief(n), brief(m))
		}
		told = m.Kind == 7
	}
	if n.Up && x.Up && isSafe(n.Disk) {
		wantRises(t, name, x, 0, 0)
		if x.Core.Term < n.Core.Term || x.Core.Commit < n.Core.Commit {
			t.Fatalf("%s: %s\nwent back to %s", name, brief(n), brief(x))
		}
	}
}

// wantNode wants the call to answer this, as the words do, to write into nothing, and to keep the promise.
func wantNode(t *testing.T, name string, call nodeCall, n impl.Node, want nodeAnswer) nodeAnswer {
	t.Helper()
	if said := nodeAsSaid(call, n); !sameNodeAnswer(said, want) {
		t.Fatalf("%s: the words say that %s of %s\nanswers %s\nwant %s", name, call.name, brief(n), brief(said), brief(want))
	}
	return wantNodeWords(t, name, call, n)
}

// wantNodeWords wants the call to answer as the words do, to write into nothing, and to keep the promise.
func wantNodeWords(t *testing.T, name string, call nodeCall, n impl.Node) nodeAnswer {
	t.Helper()
	ahead, want := copyNode(n), nodeAsSaid(call, n)
	got := call.do(n)
	if !sameNodeAnswer(got, want) {
		t.Fatalf("%s: %s of %s\n= %s\nwant %s", name, call.name, brief(n), brief(got), brief(want))
	}
	if !sameNode(n, ahead) {
		t.Fatalf("%s: %s of %s made it %s", name, call.name, brief(ahead), brief(n))
	}
	if slowNodeOk(n) {
		wantNodePromise(t, name+": "+call.name, n, got)
	}
	return got
}

// wantNodeAsItIs wants the call to hand the node back, and nothing with it.
func wantNodeAsItIs(t *testing.T, name string, call nodeCall, n impl.Node) {
	t.Helper()
	wantNode(t, name, call, n, nodeAnswer{n: n})
}

// nodeWith is the node with a change.
func nodeWith(n impl.Node, change func(n *impl.Node)) impl.Node {
	n = copyNode(n)
	change(&n)
	return n
}

// upNode has the core, the state that its entries came to, and, where Base is above 0, a Snap of the kept state; all of it is safe on its disk.
func upNode(c impl.Core, kept, now impl.State) impl.Node {
	var snap impl.Snap
	if c.Base > 0 {
		snap = impl.Snap{Index: c.Base, Term: c.BaseTerm, Data: imageOf(kept).text()}
	}
	return impl.Node{Id: c.Id, Peers: c.Peers, Kind: now.Kind, Up: true, Core: c, State: now, Snap: snap, Disk: keptDisk(slowWalOf(c), snap), Fuel: -1}
}

// The states of the nodes here are short: what the Snap holds, and what it has come to since then.

func keptShard() impl.State {
	return withSessions(shardState(impl.Engine{Floor: 2, Cache: []impl.Series{oneSeries("cpu", 10, 1, 20, -1)}}), sessionAt(2, 6))
}

func nowShard() impl.State {
	return withSessions(shardState(impl.Engine{Floor: 5, Cache: []impl.Series{oneSeries("cpu", 10, 1, 20, 7), oneSeries("mem", 30, 3)}}), sessionAt(2, 7), sessionAt(4, 1))
}

func keptMeta() impl.State {
	return withSessions(metaState(30, 100, dealt(2, 0)...), sessionAt(2, 6))
}

func nowMeta() impl.State {
	return withSessions(metaState(30, 250, dealt(2, 0, 3, 1)...), sessionAt(2, 7), sessionAt(4, 1))
}

func shardNode(c impl.Core) impl.Node {
	return upNode(c, keptShard(), nowShard())
}

func metaNode(c impl.Core) impl.Node {
	return upNode(c, keptMeta(), nowMeta())
}

func followNode() impl.Node { return shardNode(followCore()) }
func seekNode() impl.Node   { return shardNode(seekCore()) }
func leadNode() impl.Node   { return metaNode(leadCore()) }

// freshNode has a log without Entries and nothing else.
func freshNode(id, peers, kind int) impl.Node {
	state := impl.State{Kind: kind}
	return upNode(newCore(id, peers), state, state)
}

// downNode is the node without all but its disk.
func downNode(n impl.Node) impl.Node {
	return impl.Node{Id: n.Id, Peers: n.Peers, Kind: n.Kind, Disk: n.Disk, Fuel: -1}
}

// withDisk is the node, not Up, with another disk.
func withDisk(n impl.Node, d impl.Disk) impl.Node {
	n = downNode(n)
	n.Disk = d
	return n
}

func someNodes() []impl.Node {
	l := []impl.Node{freshNode(0, 1, impl.KdMeta), freshNode(4, 5, impl.KdShard), followNode(), seekNode(), leadNode(), metaNode(followCore()), metaNode(seekCore()), shardNode(leadCore())}
	for _, c := range someCores() {
		l = append(l, shardNode(c))
	}
	return l
}

func TestNodeConstants(t *testing.T) {
	if impl.MaxFuel != 100 {
		t.Errorf("%d", impl.MaxFuel)
	}
}

// callsOnNode are calls that would do something to such a node, if it were right.
func callsOnNode(n impl.Node) []nodeCall {
	from := (n.Id&1 + 1) % 2
	l := []nodeCall{fuelCall(5, 1, 1), fallCall(0, 0), riseCall(), nodeElectCall(), nodeBeatCall(), nodeCompactCall()}
	for _, m := range []impl.Msg{voteMsg(from, n.Id, 9, 100, 9), votedMsg(from, n.Id, 6, true), appMsg(from, n.Id, 9, 11, 6, 11), appMsg(from, n.Id, 1, 0, 0, 0), appedMsg(from, n.Id, 6, 11, true), snapMsg(from, n.Id, 9, 100, 9, imageOf(keptShard()).text()), callMsg(12, n.Id, 7, flushText), callMsg(12, n.Id, 8, flushText), {}} {
		l = append(l, nodeHearCall(m))
	}
	return l
}

// wantNodeOk wants the node to be right or not, and the zero answer to whatever happens to it if it is not.
func wantNodeOk(t *testing.T, name string, n impl.Node, right bool) {
	t.Helper()
	if slowNodeOk(n) != right {
		t.Fatalf("%s: is %s right? The words say %v", name, brief(n), !right)
	}
	ahead := copyNode(n)
	if impl.NodeOk(n) != right {
		t.Fatalf("%s: NodeOk(%s) = %v", name, brief(n), !right)
	}
	if !sameNode(n, ahead) {
		t.Fatalf("%s: NodeOk of %s made it %s", name, brief(ahead), brief(n))
	}
	if right {
		return
	}
	for _, call := range callsOnNode(n) {
		if got := call.do(n); !sameNodeAnswer(got, nodeAnswer{}) {
			t.Fatalf("%s: %s of %s\n= %s", name, call.name, brief(n), brief(got))
		}
	}
}

// A nodeField is a number of a node.
type nodeField func(n *impl.Node) *int

func nodeId(n *impl.Node) *int    { return &n.Id }
func nodePeers(n *impl.Node) *int { return &n.Peers }
func nodeKind(n *impl.Node) *int  { return &n.Kind }
func nodeFuel(n *impl.Node) *int  { return &n.Fuel }
func nodeKeep(n *impl.Node) *int  { return &n.Keep }
func nodeCut(n *impl.Node) *int   { return &n.Cut }

// wantNodeField wants the node right where the field is from least to most; it goes to the edges, one past them, and far beyond.
func wantNodeField(t *testing.T, name string, n impl.Node, of nodeField, least, most int) {
	t.Helper()
	for _, i := range []int{math.MinInt, -1 << 32, least - 2, least - 1, least, least + 1, most - 1, most, most + 1, most + 2, 1<<32 + least, math.MaxInt, -3, -2, -1, 0, 1, 2, 3, 4, 5, 6, 7} {
		x := nodeWith(n, func(n *impl.Node) { *of(n) = i })
		wantNodeOk(t, fmt.Sprint(name, " ", i), x, within(i, least, most))
	}
}

func TestNodeOkNumbersOfOneThatIsUp(t *testing.T) {
	for _, n := range []impl.Node{followNode(), leadNode(), metaNode(followCore())} {
		wantNodeOk(t, "it is up", n, true)
		wantNodeField(t, "Id", n, nodeId, 1, 1)
		wantNodeField(t, "Peers", n, nodePeers, 3, 3)
		wantNodeField(t, "Kind", n, nodeKind, n.Kind, n.Kind)
		wantNodeField(t, "Fuel", n, nodeFuel, -1, 100)
		wantNodeField(t, "Keep without Fuel", n, nodeKeep, 0, 0)
		wantNodeField(t, "Cut without Fuel", n, nodeCut, 0, 0)
		for _, fuel := range []int{0, 1, 100} {
			x := nodeWith(n, func(n *impl.Node) { n.Fuel = fuel })
			wantNodeField(t, "Keep", x, nodeKeep, 0, 20)
			wantNodeField(t, "Cut", x, nodeCut, 0, 1048576)
		}
		full := nodeWith(n, func(n *impl.Node) { n.Fuel, n.Keep, n.Cut = 0, 20, 1048576 })
		wantNodeOk(t, "all at their edge", full, true)
		wantNodeField(t, "Fuel beside Keep and Cut", full, nodeFuel, 0, 100)
		wantNodeField(t, "Fuel beside Keep", nodeWith(full, func(n *impl.Node) { n.Cut = 0 }), nodeFuel, 0, 100)
		wantNodeField(t, "Fuel beside Cut", nodeWith(full, func(n *impl.Node) { n.Keep = 0 }), nodeFuel, 0, 100)
	}
}

func TestNodeOkNumbersOfOneThatIsDown(t *testing.T) {
	for _, up := range []impl.Node{followNode(), leadNode(), freshNode(1, 3, impl.KdShard)} {
		n := downNode(up)
		wantNodeOk(t, "it is down", n, true)
		wantNodeField(t, "Id", n, nodeId, 0, 2)
		wantNodeField(t, "Id of five", nodeWith(n, func(n *impl.Node) { n.Peers = 5 }), nodeId, 0, 4)
		wantNodeField(t, "Id of one", nodeWith(n, func(n *impl.Node) { n.Id, n.Peers = 0, 1 }), nodeId, 0, 0)
		wantNodeField(t, "Peers", n, nodePeers, 2, 5)
		wantNodeField(t, "Peers of the first one", nodeWith(n, func(n *impl.Node) { n.Id = 0 }), nodePeers, 1, 5)
		wantNodeField(t, "Peers of the last one", nodeWith(n, func(n *impl.Node) { n.Id = 4 }), nodePeers, 5, 5)
		wantNodeField(t, "Kind", n, nodeKind, 1, 2)
		wantNodeField(t, "Fuel", n, nodeFuel, -1, -1)
		wantNodeField(t, "Keep", n, nodeKeep, 0, 0)
		wantNodeField(t, "Cut", n, nodeCut, 0, 0)
		wantNodeOk(t, "Up with nothing", nodeWith(n, func(n *impl.Node) { n.Up = true }), false)
		wantNodeOk(t, "down with all", nodeWith(up, func(n *impl.Node) { n.Up = false }), false)
		wantNodeOk(t, "down with its Core", nodeWith(n, func(n *impl.Node) { n.Core = up.Core }), false)
		wantNodeOk(t, "down with its State", nodeWith(n, func(n *impl.Node) { n.State = up.State }), false)
		wantNodeOk(t, "down with a Snap", nodeWith(n, func(n *impl.Node) { n.Snap = followNode().Snap }), false)
		wantNodeOk(t, "down with a disk without files", withDisk(n, impl.Disk{Next: 1}), true)
		wantNodeOk(t, "down with a rich disk", withDisk(n, richDisk()), true)
		wantNodeOk(t, "down with the zero Disk", withDisk(n, impl.Disk{}), false)
	}
	wantNodeOk(t, "the zero Node", impl.Node{}, false)
}

// Of one that is down, each field of Core, State and Snap is zero; an empty list is as good as none.
func TestNodesThatAreDownWithSomething(t *testing.T) {
	n := downNode(followNode())
	for i, change := range []func(n *impl.Node){
		func(n *impl.Node) { n.Core.Id = 1 }, func(n *impl.Node) { n.Core.Peers = 1 }, func(n *impl.Node) { n.Core.Term = 1 }, func(n *impl.Node) { n.Core.Vote = -1 }, func(n *impl.Node) { n.Core.Role = 1 }, func(n *impl.Node) { n.Core.Lead = -1 }, func(n *impl.Node) { n.Core.Base = 1 }, func(n *impl.Node) { n.Core.BaseTerm = 1 },
		func(n *impl.Node) { n.Core.Log = make([]impl.Entry, 1) }, func(n *impl.Node) { n.Core.Commit = 1 }, func(n *impl.Node) { n.Core.Yes = []int{0} }, func(n *impl.Node) { n.Core.Next = []int{0} }, func(n *impl.Node) { n.Core.Match = []int{0} },
		func(n *impl.Node) { n.State.Kind = n.Kind }, func(n *impl.Node) { n.State.Hold = 1 }, func(n *impl.Node) { n.State.Mark = 1 }, func(n *impl.Node) { n.State.Buckets = dealt(0, 0) }, func(n *impl.Node) { n.State.Engine.Floor = 1 }, func(n *impl.Node) { n.State.Engine.Cache = make([]impl.Series, 1) }, func(n *impl.Node) { n.State.Engine.Files = []string{""} }, func(n *impl.Node) { n.State.Sessions = make([]impl.Session, 1) },
		func(n *impl.Node) { n.Snap.Index = 1 }, func(n *impl.Node) { n.Snap.Term = 1 }, func(n *impl.Node) { n.Snap.Data = "x" },
	} {
		wantNodeOk(t, fmt.Sprint("field ", i), nodeWith(n, change), false)
	}
	empty := n
	empty.Core.Log, empty.Core.Yes, empty.Core.Next, empty.Core.Match = []impl.Entry{}, []int{}, []int{}, []int{}
	empty.State.Buckets, empty.State.Engine.Cache, empty.State.Engine.Files, empty.State.Sessions = []impl.Bucket{}, []impl.Series{}, []string{}, []impl.Session{}
	if !impl.NodeOk(empty) {
		t.Error("empty lists")
	}
	up := freshNode(1, 3, impl.KdMeta)
	up.Core.Log, up.Core.Yes, up.State.Buckets = []impl.Entry{}, []int{}, []impl.Bucket{}
	if !impl.NodeOk(up) {
		t.Error("empty lists of one that is up")
	}
}

func TestNodeOkOfEachCore(t *testing.T) {
	for _, n := range someNodes() {
		wantNodeOk(t, "of each Role", n, true)
		for i, fault := range coreFaults() {
			x := coreWith(n.Core, fault)
			if slowCoreOk(x) {
				continue
			}
			wantNodeOk(t, fmt.Sprint("with core fault ", i), nodeWith(n, func(n *impl.Node) { n.Core = x }), false)
		}
	}
	n := followNode()
	for _, c := range []impl.Core{{}, coreWith(n.Core, func(c *impl.Core) { c.Id = 0 }), coreWith(n.Core, func(c *impl.Core) { c.Id = 2 }), coreWith(n.Core, func(c *impl.Core) { c.Peers = 2 }), coreWith(n.Core, func(c *impl.Core) { c.Peers = 5 }), coreWith(n.Core, func(c *impl.Core) { c.Id, c.Peers = 0, 5 })} {
		wantNodeOk(t, "of another Id or Peers", nodeWith(n, func(n *impl.Node) { n.Core = c }), false)
	}
	for _, change := range []func(c *impl.Core){func(c *impl.Core) { c.Lead = 2 }, func(c *impl.Core) { c.Commit = 11 }, func(c *impl.Core) { c.Commit = 7 }, func(c *impl.Core) { c.Lead = 0 }} {
		wantNodeOk(t, "what no disk tells", nodeWith(n, func(n *impl.Node) { n.Core = coreWith(n.Core, change) }), true)
	}
}

func TestNodeOkOfEachState(t *testing.T) {
	for _, c := range append(badStates(), rightStates()...) {
		for _, n := range []impl.Node{followNode(), metaNode(followCore())} {
			x := nodeWith(n, func(n *impl.Node) { n.State = c.s })
			if got := impl.NodeOk(x); got != (slowStateOk(c.s) && c.s.Kind == n.Kind) {
				t.Fatalf("%s: NodeOk is %v with %s", c.name, got, brief(c.s))
			}
		}
	}
	wantNodeOk(t, "the zero State", nodeWith(followNode(), func(n *impl.Node) { n.State = impl.State{} }), false)
	wantNodeOk(t, "a State of the other Kind", nodeWith(followNode(), func(n *impl.Node) { n.State = nowMeta() }), false)
	wantNodeOk(t, "a State that is not right", nodeWith(followNode(), func(n *impl.Node) { n.State.Hold = 1 }), false)
	wantNodeOk(t, "another State", nodeWith(followNode(), func(n *impl.Node) { n.State = shardState(impl.Engine{}) }), true)
	wantNodeOk(t, "the other Kind in both", nodeWith(metaNode(followCore()), func(n *impl.Node) { n.Kind, n.State = impl.KdShard, nowShard() }), false)
}

// nodeOfSnap has a disk that tells just this Snap, and the Wal of followCore or of one behind it.
func nodeOfSnap(s impl.Snap) impl.Node {
	n := followNode()
	n.Snap = s
	n.Disk = keptDisk(slowWalOf(n.Core), s)
	return n
}

func TestNodeOkOfEachSnap(t *testing.T) {
	kept := imageOf(keptShard()).text()
	for name, c := range map[string]struct {
		s     impl.Snap
		right bool
	}{
		"as it is":                     {impl.Snap{Index: 7, Term: 3, Data: kept}, true},
		"another state":                {impl.Snap{Index: 7, Term: 3, Data: imageOf(nowShard()).text()}, true},
		"a new state":                  {impl.Snap{Index: 7, Term: 3, Data: imageOf(shardState(impl.Engine{})).text()}, true},
		"a great state":                {impl.Snap{Index: 7, Term: 3, Data: imageOf(fullShard()).text()}, true},
		"a state of the other Kind":    {impl.Snap{Index: 7, Term: 3, Data: imageOf(keptMeta()).text()}, false},
		"no state":                     {impl.Snap{Index: 7, Term: 3, Data: "seven"}, false},
		"no Data":                      {impl.Snap{Index: 7, Term: 3}, false},
		"a state and a byte":           {impl.Snap{Index: 7, Term: 3, Data: kept + "\x00"}, false},
		"a state without a byte":       {impl.Snap{Index: 7, Term: 3, Data: kept[:len(kept)-1]}, false},
		"too long":                     {impl.Snap{Index: 7, Term: 3, Data: strings.Repeat("x", 30001)}, false},
		"the zero Snap":                {impl.Snap{}, false},
		"Data alone":                   {impl.Snap{Data: kept}, false},
		"an Index below":               {impl.Snap{Index: 6, Term: 3, Data: kept}, false},
		"an Index above":               {impl.Snap{Index: 8, Term: 3, Data: kept}, false},
		"a Term below":                 {impl.Snap{Index: 7, Term: 2, Data: kept}, false},
		"a Term above":                 {impl.Snap{Index: 7, Term: 4, Data: kept}, false},
		"an Index and a Term that are": {impl.Snap{Index: -1, Term: -1, Data: kept}, false},
	} {
		wantNodeOk(t, name, nodeOfSnap(c.s), c.right)
		wantNodeOk(t, name+", and the disk as it was", nodeWith(followNode(), func(n *impl.Node) { n.Snap = c.s }), c.s == followNode().Snap)
		wantNodeOk(t, name+" on the disk alone", nodeWith(followNode(), func(n *impl.Node) { n.Disk = keptDisk(slowWalOf(n.Core), c.s) }), c.s == followNode().Snap)
	}
	fresh := freshNode(1, 3, impl.KdShard)
	for name, s := range map[string]impl.Snap{"with Data": {Data: kept}, "with an Index": {Index: 1, Term: 1, Data: kept}, "with a Term": {Term: 1}} {
		wantNodeOk(t, "Base 0 "+name, nodeWith(fresh, func(n *impl.Node) { n.Snap = s }), false)
		wantNodeOk(t, "Base 0 "+name+", on the disk, too", nodeWith(fresh, func(n *impl.Node) { n.Snap, n.Disk = s, keptDisk(slowWalOf(n.Core), s) }), false)
	}
}

// nodeDisks are disks for followNode, right or not.
func nodeDisks() map[string]struct {
	d     impl.Disk
	right bool
} {
	n := followNode()
	w, s := slowWalOf(n.Core), n.Snap
	with := func(change func(w *impl.Wal)) impl.Disk {
		x := copyWal(w)
		change(&x)
		return keptDisk(x, s)
	}
	files := func(change func(files map[string]string)) impl.Disk {
		f := keptFiles(w, s)
		change(f)
		return filesDisk(f)
	}
	older := impl.Snap{Index: 6, Term: 3, Data: s.Data}
	before := walAt(6, -1, 6, 3, append([]impl.Entry{{Term: 3, Data: "seven"}}, w.Entries...)...)
	loose := keptDisk(w, s)
	for i := range loose.Inodes {
		loose.Inodes[i].Sure = 0
	}
	fewer := walAt(5, 1, 7, 3, append(slices.Clone(w.Entries[:2]), impl.Entry{Term: 4, Data: "gone"})...)
	changes, _ := slowChanges(fewer, w)
	moved, _, _ := impl.DoSteps(n.Disk, []impl.Step{{Kind: impl.StMake, Name: "a"}, {Kind: impl.StName, Name: "log", To: "b"}, {Kind: impl.StName, Name: "b", To: "log"}}, 3)
	hidden, _, _ := impl.DoSteps(n.Disk, []impl.Step{{Kind: impl.StName, Name: "log", To: "b"}}, 1)
	type disk = struct {
		d     impl.Disk
		right bool
	}
	return map[string]disk{
		"as it is":                       {n.Disk, true},
		"with other files":               {keptDisk(w, s, "a", "log.old", "snapnew"), true},
		"nothing safe":                   {loose, true},
		"changes of names":               {moved, true},
		"by changes":                     {files(func(f map[string]string) { f["log"] = slowWalText(fewer) + logOf(changes...) }), true},
		"no room left":                   {nodeWith(n, func(n *impl.Node) { n.Disk.Room = slowBytes(n.Disk) }).Disk, true},
		"another name now":               {hidden, false},
		"Term 1 more":                    {with(func(w *impl.Wal) { w.Term++ }), false},
		"another Vote":                   {with(func(w *impl.Wal) { w.Vote = 0 }), false},
		"one Entry less":                 {with(func(w *impl.Wal) { w.Entries = w.Entries[:3] }), false},
		"one Entry more":                 {with(func(w *impl.Wal) { w.Entries = append(w.Entries, impl.Entry{Term: 6}) }), false},
		"an Entry with other Data":       {with(func(w *impl.Wal) { w.Entries[3].Data = "de" }), false},
		"an Entry of another Term":       {with(func(w *impl.Wal) { w.Entries[3].Term = 5 }), false},
		"no Entries":                     {with(func(w *impl.Wal) { w.Entries = nil }), false},
		"another Base":                   {keptDisk(walAt(6, -1, 8, 3, w.Entries[1:]...), impl.Snap{Index: 8, Term: 3, Data: s.Data}), false},
		"a log that begins below":        {keptDisk(before, older), false},
		"a Snap later than the log":      {keptDisk(before, s), false},
		"a log of another BaseTerm":      {keptDisk(walAt(6, -1, 7, 2, w.Entries...), s), false},
		"another Snap":                   {keptDisk(w, impl.Snap{Index: 7, Term: 3, Data: imageOf(nowShard()).text()}), false},
		"no Snap":                        {keptDisk(w, impl.Snap{}), false},
		"a bad Snap":                     {files(func(f map[string]string) { f["snap"] = "x" + f["snap"][1:] }), false},
		"a Snap that is cut off":         {files(func(f map[string]string) { f["snap"] = f["snap"][:30] }), false},
		"an empty Snap":                  {files(func(f map[string]string) { f["snap"] = "" }), false},
		"no log":                         {files(func(f map[string]string) { delete(f, "log") }), false},
		"an empty log":                   {files(func(f map[string]string) { f["log"] = "" }), false},
		"a bad log":                      {files(func(f map[string]string) { f["log"] = "x" + f["log"][1:] }), false},
		"a log and a byte":               {files(func(f map[string]string) { f["log"] += "\x00" }), false},
		"a log and a frame of no record": {files(func(f map[string]string) { f["log"] += slowFrame("x") }), false},
		"a log and half a record":        {files(func(f map[string]string) { f["log"] += logOf(impl.Rec{Kind: impl.RcHard, Term: 7, Vote: -1})[:9] }), false},
		"log.new":                        {keptDisk(w, s, "log.new"), false},
		"snap.new":                       {keptDisk(w, s, "snap.new"), false},
		"both":                           {keptDisk(w, s, "log.new", "snap.new"), false},
		"nothing":                        {filesDisk(nil), false},
		"the zero Disk":                  {impl.Disk{}, false},
		"a disk that is not right":       {nodeWith(n, func(n *impl.Node) { n.Disk.Room = 3 }).Disk, false},
	}
}

func TestNodeOkOfEachDisk(t *testing.T) {
	n := followNode()
	for name, c := range nodeDisks() {
		wantNodeOk(t, name, nodeWith(n, func(n *impl.Node) { n.Disk = c.d }), c.right)
		wantNodeOk(t, name+", down", withDisk(n, c.d), slowRight(c.d))
	}
	for _, bad := range badDisks() {
		wantNodeOk(t, bad.name, nodeWith(n, func(n *impl.Node) { n.Disk = bad.d }), false)
		wantNodeOk(t, bad.name+", down", withDisk(n, bad.d), false)
	}
}

// nodeFaults each make a node that is up, and that is right, one that is not.
func nodeFaults() []func(n *impl.Node) {
	return []func(n *impl.Node){
		func(n *impl.Node) { n.Id = 2 }, func(n *impl.Node) { n.Peers = 6 }, func(n *impl.Node) { n.Kind = 3 }, func(n *impl.Node) { n.Up = false }, func(n *impl.Node) { n.Core.Role = 4 }, func(n *impl.Node) { n.Core.Id = 0 },
		func(n *impl.Node) { n.State.Hold = -1 }, func(n *impl.Node) { n.State.Kind = 3 - n.Kind }, func(n *impl.Node) { n.Snap.Index = 6 }, func(n *impl.Node) { n.Snap.Term = 2 }, func(n *impl.Node) { n.Snap.Data = "x" }, func(n *impl.Node) { n.Disk.Next = 0 },
		func(n *impl.Node) { n.Disk = keptDisk(slowWalOf(n.Core), n.Snap, "log.new") }, func(n *impl.Node) { n.Fuel = -2 }, func(n *impl.Node) { n.Keep = -1 }, func(n *impl.Node) { n.Cut = 1048577 }, func(n *impl.Node) { n.Fuel, n.Keep = -1, 1 }, func(n *impl.Node) { n.Fuel, n.Cut = -1, 1 },
	}
}

func TestNodesWithSeveralFaults(t *testing.T) {
	for _, n := range []impl.Node{followNode(), leadNode()} {
		for i, one := range nodeFaults() {
			wantNodeOk(t, fmt.Sprint("fault ", i), nodeWith(n, one), false)
			for j, other := range nodeFaults()[:i] {
				x := nodeWith(nodeWith(n, one), other)
				wantNodeOk(t, fmt.Sprint("faults ", i, " and ", j), x, slowNodeOk(x))
			}
		}
	}
}

// firstLog is the log of a node that has nothing yet, in 24 bytes.
func firstLog() string {
	return logOf(impl.Rec{Kind: impl.RcBase}, impl.Rec{Kind: impl.RcHard, Vote: -1})
}

// wantNew wants a new node, or none.
func wantNew(t *testing.T, id, peers, room, kind int, right bool) {
	t.Helper()
	want := impl.Node{}
	if right {
		want = freshNode(id, peers, kind)
		want.Disk = impl.Disk{Room: room, Next: 2, Inodes: []impl.Inode{{Id: 1, Data: firstLog(), Sure: 24}}, Dir: []impl.Link{{Name: "log", Id: 1}}}
	}
	n, ok := impl.NodeNew(id, peers, room, kind)
	if !sameNode(n, want) || ok != right {
		t.Fatalf("NodeNew(%d, %d, %d, %d) = %s, %v", id, peers, room, kind, brief(n), ok)
	}
	if right && (!impl.NodeOk(n) || !slowNodeOk(n)) {
		t.Fatalf("NodeNew(%d, %d, %d, %d) is not right", id, peers, room, kind)
	}
}

func TestNodeNew(t *testing.T) {
	if len(firstLog()) != 24 {
		t.Fatalf("%q", firstLog())
	}
	numbers := []int{math.MinInt, -2, -1, 0, 1, 2, 3, 4, 5, 6, 7, math.MaxInt}
	for _, peers := range numbers {
		for _, id := range numbers {
			for _, kind := range []int{math.MinInt, -1, 0, 1, 2, 3, math.MaxInt} {
				wantNew(t, id, peers, 9000, kind, within(peers, 1, 5) && within(id, 0, peers-1) && within(kind, 1, 2))
			}
		}
	}
	for _, room := range []int{math.MinInt, -1, 0, 1, 11, 12, 22, 23, 24, 25, 100, 1048575, 1048576, 1048577, math.MaxInt} {
		for kind := range 4 {
			wantNew(t, 0, 3, room, kind, within(room, 24, 1048576) && within(kind, 1, 2))
			wantNew(t, 3, 3, room, kind, false)
		}
	}
}

func TestNodeFuel(t *testing.T) {
	edges := func(most int) []int {
		return []int{math.MinInt, -2, -1, 0, 1, 5, most - 1, most, most + 1, math.MaxInt}
	}
	for _, n := range []impl.Node{followNode(), leadNode(), nodeWith(followNode(), func(n *impl.Node) { n.Fuel, n.Keep, n.Cut = 7, 8, 9 })} {
		for _, fuel := range edges(100) {
			for _, keep := range edges(20) {
				for _, cut := range edges(1048576) {
					x, ok := impl.NodeFuel(n, fuel, keep, cut)
					want := n
					right := within(fuel, 0, 100) && within(keep, 0, 20) && within(cut, 0, 1048576)
					if right {
						want.Fuel, want.Keep, want.Cut = fuel, keep, cut
					}
					if ok != right || !sameNode(x, want) {
						t.Fatalf("NodeFuel %d, %d, %d = %s, %v", fuel, keep, cut, brief(x), ok)
					}
				}
			}
			wantNodeWords(t, "edges", fuelCall(fuel, 3, 4), n)
			wantNodeWords(t, "edges", fuelCall(3, fuel, 4), n)
			wantNodeWords(t, "edges", fuelCall(3, 4, fuel), n)
		}
		for _, fuel := range edges(100) {
			wantNodeAsItIs(t, "down", fuelCall(fuel, 0, 0), downNode(n))
			wantNodeAsItIs(t, "down", fuelCall(0, fuel, fuel), downNode(n))
		}
	}
}

// looseNode is a node that is up, with a disk of files and names that are not safe: of snap 5 bytes, of log all but 10, and a name of a file that is new.
func looseNode() impl.Node {
	n := followNode()
	for i, link := range n.Disk.Dir {
		if link.Name == "log" {
			n.Disk.Inodes[i].Sure -= 10
		} else {
			n.Disk.Inodes[i].Sure = 5
		}
	}
	for _, s := range []impl.Step{{Kind: impl.StMake, Name: "a"}, {Kind: impl.StAdd, Name: "a", Data: "abc"}, {Kind: impl.StName, Name: "a", To: "b"}} {
		n.Disk, _ = impl.DoStep(n.Disk, s)
	}
	return n
}

func TestNodeFall(t *testing.T) {
	numbers := []int{math.MinInt, -1 << 40, -2, -1, 0, 1, 2, 3, 5, 10, 19, 20, 21, 1000, 1048576, 1048577, math.MaxInt}
	for _, n := range []impl.Node{followNode(), leadNode(), looseNode(), nodeWith(followNode(), func(n *impl.Node) { n.Fuel, n.Keep, n.Cut = 7, 8, 9 })} {
		for _, keep := range numbers {
			for _, cut := range numbers {
				got := wantNodeWords(t, "it falls", fallCall(keep, cut), n)
				want := withDisk(n, impl.Crash(n.Disk, keep, slices.Repeat([]int{cut}, len(n.Disk.Inodes))))
				if !sameNode(got.n, want) {
					t.Fatalf("NodeFall %d, %d = %s, want %s", keep, cut, brief(got.n), brief(want))
				}
				wantNodeAsItIs(t, "it is down", fallCall(keep, cut), got.n)
				wantNodeAsItIs(t, "it is down, with what is not safe", fallCall(keep, cut), downNode(n))
			}
		}
	}
	// Cut is for each file, Keep for the names.
	x := impl.NodeFall(looseNode(), 1, 7)
	if snap, _ := impl.Load(x.Disk, "snap"); len(snap) != 12 {
		t.Errorf("snap has %d bytes", len(snap))
	}
	whole, _ := impl.Load(followNode().Disk, "log")
	if log, _ := impl.Load(x.Disk, "log"); log != whole[:len(whole)-3] {
		t.Errorf("log has %d bytes of %d", len(log), len(whole))
	}
	if a, ok := impl.Load(x.Disk, "a"); a != "abc" || !ok {
		t.Errorf("a has %q, %v", a, ok)
	}
	if names := impl.List(impl.NodeFall(looseNode(), 2, 0).Disk); !slices.Equal(names, []string{"b", "log", "snap"}) {
		t.Errorf("%q", names)
	}
}

// A riseCase is a disk, and what followNode's Id, Peers and Kind rise with on it, if they do.
type riseCase struct {
	name  string
	d     impl.Disk
	ok    bool
	w     impl.Wal
	s     impl.Snap
	state impl.State
	clean bool
}

func riseCases() []riseCase {
	w, s := slowWalOf(followCore()), followNode().Snap
	files := func(change func(f map[string]string)) impl.Disk {
		f := keptFiles(w, s)
		change(f)
		return filesDisk(f)
	}
	kept, none := keptShard(), impl.State{Kind: impl.KdShard}
	later := func(index, term int) impl.Snap {
		return impl.Snap{Index: index, Term: term, Data: imageOf(nowShard()).text()}
	}
	first := impl.Wal{Term: 2, Vote: 1, Entries: entriesOf(1, 2)}
	cut := slowWalText(first)[:30]
	return []riseCase{
		{"all there", keptDisk(w, s), true, w, s, kept, true},
		{"with other files", keptDisk(w, s, "a", "log.old"), true, w, s, kept, true},
		{"no Snap", keptDisk(first, impl.Snap{}), true, first, impl.Snap{}, none, true},
		{"nothing", filesDisk(nil), true, impl.Wal{Vote: -1}, impl.Snap{}, none, false},
		{"nothing but log.new", filesDisk(map[string]string{"log.new": "left"}), true, impl.Wal{Vote: -1}, impl.Snap{}, none, false},
		{"nothing but snap.new", filesDisk(map[string]string{"snap.new": "left"}), true, impl.Wal{Vote: -1}, impl.Snap{}, none, false},
		{"nothing but both and more", filesDisk(map[string]string{"snap.new": "left", "log.new": "", "x": "y"}), true, impl.Wal{Vote: -1}, impl.Snap{}, none, false},
		{"log.new", keptDisk(w, s, "log.new"), true, w, s, kept, false},
		{"snap.new", keptDisk(w, s, "snap.new"), true, w, s, kept, false},
		{"log.new and snap.new", keptDisk(w, s, "log.new", "snap.new"), true, w, s, kept, false},
		{"a log and a byte", files(func(f map[string]string) { f["log"] += "\x00" }), true, w, s, kept, false},
		{"a log and half a record", files(func(f map[string]string) { f["log"] += logOf(impl.Rec{Kind: impl.RcHard, Term: 7, Vote: -1})[:9] }), true, w, s, kept, false},
		{"a log and a record that does not fit", files(func(f map[string]string) { f["log"] += logOf(impl.Rec{Kind: impl.RcHard, Term: 5, Vote: -1}) }), true, w, s, kept, false},
		{"a log that is short", filesDisk(map[string]string{"log": cut}), true, impl.Wal{Term: 2, Vote: 1}, impl.Snap{}, none, false},
		{"a log whose first record is short", filesDisk(map[string]string{"log": cut[:11]}), false, impl.Wal{}, impl.Snap{}, impl.State{}, false},
		{"a log of its first record", filesDisk(map[string]string{"log": cut[:12]}), true, impl.Wal{Vote: -1}, impl.Snap{}, none, true},
		{"a log that is bad", files(func(f map[string]string) { f["log"] = "x" + f["log"][1:] }), false, impl.Wal{}, impl.Snap{}, impl.State{}, false},
		{"an empty log", files(func(f map[string]string) { f["log"] = "" }), false, impl.Wal{}, impl.Snap{}, impl.State{}, false},
		{"an empty log alone", filesDisk(map[string]string{"log": ""}), false, impl.Wal{}, impl.Snap{}, impl.State{}, false},
		{"no log and a Snap", files(func(f map[string]string) { delete(f, "log") }), false, impl.Wal{}, impl.Snap{}, impl.State{}, false},
		{"no log and a bad Snap", filesDisk(map[string]string{"snap": "bad"}), false, impl.Wal{}, impl.Snap{}, impl.State{}, false},
		{"no log, log.new and a Snap", files(func(f map[string]string) { f["log.new"] = f["log"]; delete(f, "log") }), false, impl.Wal{}, impl.Snap{}, impl.State{}, false},
		{"a bad Snap", files(func(f map[string]string) { f["snap"] = "x" + f["snap"][1:] }), false, impl.Wal{}, impl.Snap{}, impl.State{}, false},
		{"a log beyond the Snap", keptDisk(w, impl.Snap{Index: 6, Term: 3, Data: s.Data}), false, impl.Wal{}, impl.Snap{}, impl.State{}, false},
		{"a log without its Snap", keptDisk(w, impl.Snap{}), false, impl.Wal{}, impl.Snap{}, impl.State{}, false},
		{"a Snap of another Term", keptDisk(w, impl.Snap{Index: 7, Term: 2, Data: s.Data}), false, impl.Wal{}, impl.Snap{}, impl.State{}, false},
		{"a Snap in the log", keptDisk(w, later(9, 3)), true, walAt(6, -1, 9, 3, w.Entries[2:]...), later(9, 3), nowShard(), false},
		{"a Snap at the end of the log", keptDisk(w, later(11, 6)), true, walAt(6, -1, 11, 6), later(11, 6), nowShard(), false},
		{"a Snap of another Term in the log", keptDisk(w, later(9, 5)), true, walAt(6, -1, 9, 5), later(9, 5), nowShard(), false},
		{"a Snap beyond the log", keptDisk(w, later(40, 6)), true, walAt(6, -1, 40, 6), later(40, 6), nowShard(), false},
		{"a Snap beyond the Term", keptDisk(walAt(6, 2, 7, 3, w.Entries...), later(40, 9), "snap.new", "log.new"), true, walAt(9, -1, 40, 9), later(40, 9), nowShard(), false},
		{"a Vote in bounds", keptDisk(walAt(6, 2, 7, 3), s), true, walAt(6, 2, 7, 3), s, kept, true},
		{"a Vote that no core has", keptDisk(walAt(6, 3, 7, 3), s), false, impl.Wal{}, impl.Snap{}, impl.State{}, false},
		{"a Vote that no core has, and Dirty", keptDisk(walAt(6, 4, 7, 3), s, "log.new", "snap.new"), false, impl.Wal{}, impl.Snap{}, impl.State{}, false},
		{"a Snap of the other Kind", keptDisk(w, impl.Snap{Index: 7, Term: 3, Data: imageOf(keptMeta()).text()}), false, impl.Wal{}, impl.Snap{}, impl.State{}, false},
		{"a Snap of no state", keptDisk(w, impl.Snap{Index: 7, Term: 3, Data: "seven"}), false, impl.Wal{}, impl.Snap{}, impl.State{}, false},
		{"a Snap without Data", keptDisk(w, impl.Snap{Index: 7, Term: 3}), false, impl.Wal{}, impl.Snap{}, impl.State{}, false},
		{"a Snap of no state, and Dirty", keptDisk(w, impl.Snap{Index: 9, Term: 3, Data: "nine"}, "log.new", "snap.new"), false, impl.Wal{}, impl.Snap{}, impl.State{}, false},
		{"a great Snap", keptDisk(w, impl.Snap{Index: 7, Term: 3, Data: imageOf(fullShard()).text()}), true, w, impl.Snap{Index: 7, Term: 3, Data: imageOf(fullShard()).text()}, fullShard(), true},
	}
}

func TestNodeRise(t *testing.T) {
	for _, c := range riseCases() {
		n := withDisk(followNode(), c.d)
		got := wantNodeWords(t, c.name, riseCall(), n)
		if !c.ok {
			wantNodeAsItIs(t, c.name, riseCall(), n)
			continue
		}
		x := got.n
		want := impl.Core{Id: 1, Peers: 3, Term: c.w.Term, Vote: c.w.Vote, Role: impl.RlFollow, Lead: -1, Base: c.w.Base, BaseTerm: c.w.BaseTerm, Log: c.w.Entries, Commit: c.w.Base}
		if !got.ok || !x.Up || !sameCore(x.Core, want) || x.Snap != c.s || !sameState(x.State, c.state) || x.Fuel != -1 {
			t.Fatalf("%s: %s rises as %s", c.name, brief(n), brief(got))
		}
		if sameDisk(x.Disk, n.Disk) != c.clean {
			t.Fatalf("%s: the disk was %s and is %s", c.name, brief(n.Disk), brief(x.Disk))
		}
		if slowHas(x.Disk, "log.new") || slowHas(x.Disk, "snap.new") || len(x.Disk.Moves) > 0 {
			t.Fatalf("%s: the disk has %q, and %s", c.name, impl.List(x.Disk), brief(x.Disk.Moves))
		}
		if log, _ := impl.Load(x.Disk, "log"); !c.clean && log != slowWalText(c.w) {
			t.Fatalf("%s: the log has %s", c.name, brief(log))
		}
		wantNodeAsItIs(t, c.name+", and it is up", riseCall(), x)
		for _, keep := range []int{0, 1, 20} {
			again := wantRises(t, c.name, x, keep, keep*100)
			if !sameNode(again, x) {
				t.Fatalf("%s: %s rises as %s the next time", c.name, brief(x), brief(again))
			}
		}
	}
	for _, n := range someNodes() {
		wantNodeAsItIs(t, "up", riseCall(), n)
		wantNodeAsItIs(t, "up, with Fuel", riseCall(), nodeWith(n, func(n *impl.Node) { n.Fuel, n.Keep, n.Cut = 0, 3, 4 }))
		got := wantNodeWords(t, "down", riseCall(), downNode(n))
		if !got.ok || !sameWal(slowWalOf(got.n.Core), slowWalOf(n.Core)) {
			t.Fatalf("%s rises as %s", brief(n), brief(got))
		}
	}
	for name, c := range nodeDisks() {
		for kind := 1; kind <= 2; kind++ {
			n := withDisk(followNode(), c.d)
			n.Kind = kind
			wantNodeWords(t, name, riseCall(), n)
		}
	}
	for _, d := range []impl.Disk{richDisk(), withInodes(10), withMoves(20)} {
		wantNodeWords(t, "other disks", riseCall(), withDisk(followNode(), d))
	}
}

// The Id, the Peers and the Kind that rise on a disk: any Wal whose Vote is below Peers, and any state of the Kind.
func TestNodeRiseOfEachId(t *testing.T) {
	for peers := 1; peers <= 5; peers++ {
		for id := range peers {
			for vote := -1; vote < 5; vote++ {
				for kind := 1; kind <= 2; kind++ {
					n := impl.Node{Id: id, Peers: peers, Kind: kind, Fuel: -1, Disk: keptDisk(walAt(6, vote, 7, 3, entriesOf(3, 4)...), followNode().Snap)}
					got := wantNodeWords(t, "each", riseCall(), n)
					if got.ok != (vote < peers && kind == impl.KdShard) || got.n.Up != got.ok {
						t.Fatalf("%d of %d, Vote %d, Kind %d: %s", id, peers, vote, kind, brief(got))
					}
				}
			}
		}
	}
}

// On a disk that is full a node does not rise where there is something to write; what was done of it stays.
func TestNodeRiseOnAFullDisk(t *testing.T) {
	w := slowWalOf(followCore())
	dirty := keptDisk(w, followNode().Snap, "snap.new")
	used, wanted := slowBytes(dirty), len(slowWalText(w))
	for room := used; room <= used+wanted+1; room++ {
		n := withDisk(followNode(), nodeWith(impl.Node{Disk: dirty}, func(n *impl.Node) { n.Disk.Room = room }).Disk)
		got := wantNodeWords(t, fmt.Sprint("room ", room), riseCall(), n)
		// What is dropped takes its room until the names are safe.
		if got.ok != (room >= used+wanted) || got.n.Up != got.ok {
			t.Fatalf("room %d of %d and %d: %s", room, used, wanted, brief(got))
		}
		if !got.ok && (!slices.Equal(impl.List(got.n.Disk), []string{"log", "log.new", "snap"}) || len(got.n.Disk.Moves) != 2) {
			t.Fatalf("room %d: %s", room, brief(got))
		}
		if !got.ok {
			wantNodeWords(t, "again", riseCall(), got.n)
		}
	}
	clean := keptDisk(w, followNode().Snap)
	clean.Room = slowBytes(clean)
	if got := wantNodeWords(t, "nothing to write", riseCall(), withDisk(followNode(), clean)); !got.ok {
		t.Fatalf("nothing to write: %s", brief(got))
	}
	for room := range 30 {
		got := wantNodeWords(t, fmt.Sprint("an empty disk of ", room), riseCall(), withDisk(followNode(), impl.Disk{Room: room, Next: 1}))
		if got.ok != (room >= 24) || len(got.n.Disk.Inodes) != 1 {
			t.Fatalf("an empty disk of %d: %s", room, brief(got))
		}
	}
	// Too many files, too many moves, and no Id left.
	many := keptDisk(w, followNode().Snap, "a", "b", "c", "d", "e", "f", "g", "snap.new")
	if got := wantNodeWords(t, "as many files as there may be", riseCall(), withDisk(followNode(), many)); got.ok || !slowHas(many, "snap.new") || slowHas(got.n.Disk, "snap.new") {
		t.Fatalf("as many files as there may be: %s", brief(got))
	}
	fewer := keptDisk(w, followNode().Snap, "a", "b", "c", "d", "e", "f", "snap.new")
	if got := wantNodeWords(t, "one file less", riseCall(), withDisk(followNode(), fewer)); !got.ok {
		t.Fatalf("one file less: %s", brief(got))
	}
	last := nodeWith(impl.Node{Disk: dirty}, func(n *impl.Node) { n.Disk.Next = impl.MaxId }).Disk
	if got := wantNodeWords(t, "no Id left", riseCall(), withDisk(followNode(), last)); got.ok {
		t.Fatalf("no Id left: %s", brief(got))
	}
	for moves := 15; moves <= 20; moves++ {
		d := keptDisk(w, followNode().Snap, "snap.new", "log.new")
		for i := range moves {
			from, to := "log.new", "x"
			if i%2 == 1 {
				from, to = to, from
			}
			d, _ = impl.Rename(d, from, to)
		}
		// Names that are moved, and of log.new and snap.new those that are there now.
		wanted := 4
		if moves%2 == 1 {
			wanted = 3
		}
		if got := wantNodeWords(t, fmt.Sprint(moves, " moves"), riseCall(), withDisk(followNode(), d)); got.ok != (moves+wanted <= 20) {
			t.Fatalf("%d moves: %s", moves, brief(got))
		}
	}
}

// byFuel are the nodes that a call makes of a node with so much Fuel, up to one more than the steps that are wanted; each of them is as the words say.
func byFuel(t *testing.T, name string, n impl.Node, call nodeCall, keep, cut, steps int) []nodeAnswer {
	t.Helper()
	free := wantNodeWords(t, name, call, n)
	if !free.n.Up || n.Fuel != -1 {
		t.Fatalf("%s: %s goes down", name, brief(n))
	}
	var l []nodeAnswer
	for fuel := range steps + 2 {
		x := nodeWith(n, func(n *impl.Node) { n.Fuel, n.Keep, n.Cut = fuel, keep, cut })
		got := wantNodeWords(t, fmt.Sprint(name, ", Fuel ", fuel), call, x)
		if fuel < steps {
			if got.n.Up || len(got.said) > 0 || got.ok || got.n.Fuel != -1 || got.n.Keep != 0 || got.n.Cut != 0 || !impl.NodeOk(got.n) {
				t.Fatalf("%s, Fuel %d of %d: %s", name, fuel, steps, brief(got))
			}
		} else {
			want := free
			want.n.Fuel, want.n.Keep, want.n.Cut = fuel-steps, keep, cut
			if !sameNodeAnswer(got, want) {
				t.Fatalf("%s, Fuel %d of %d: %s\nwant %s", name, fuel, steps, brief(got), brief(want))
			}
		}
		l = append(l, got)
	}
	return l
}

func TestNodeElect(t *testing.T) {
	for _, n := range []impl.Node{followNode(), seekNode(), metaNode(followCore()), freshNode(4, 5, impl.KdMeta), freshNode(0, 1, impl.KdShard)} {
		wantNodeAsItIs(t, "down", nodeElectCall(), downNode(n))
		got := wantNodeWords(t, "it seeks", nodeElectCall(), n)
		c, said := impl.Elect(n.Core)
		if !sameCore(got.n.Core, c) || !slices.EqualFunc(got.said, said, sameMsg) || !sameState(got.n.State, n.State) || got.n.Snap != n.Snap {
			t.Fatalf("%s becomes %s", brief(n), brief(got))
		}
		log, _ := impl.Load(n.Disk, "log")
		recs, _ := slowChanges(slowWalOf(n.Core), slowWalOf(c))
		whole := log + logOf(recs...)
		if x, _ := impl.Load(got.n.Disk, "log"); x != whole || !isSafe(got.n.Disk) {
			t.Fatalf("%s: the log has %s", brief(n), brief(x))
		}
		for _, cut := range []int{0, 1, 11, 12, 13, 14, 100, 1048576} {
			l := byFuel(t, "it seeks", n, nodeElectCall(), 3, cut, 2)
			if x, _ := impl.Load(l[0].n.Disk, "log"); x != log {
				t.Fatalf("no step was done: %s", brief(x))
			}
			if x, _ := impl.Load(l[1].n.Disk, "log"); x != whole[:min(len(log)+cut, len(whole))] {
				t.Fatalf("one step was done, and %d bytes are left: %s", cut, brief(x))
			}
		}
	}
	for _, n := range []impl.Node{leadNode(), shardNode(leadCore()), nodeWith(shardNode(coreWith(followCore(), func(c *impl.Core) { c.Term = 100000 })), func(n *impl.Node) {})} {
		wantNodeAsItIs(t, "it leads, or Term is MaxTerm", nodeElectCall(), n)
		wantNodeAsItIs(t, "down", nodeElectCall(), downNode(n))
		for _, fuel := range []int{0, 1, 2, 100} {
			wantNodeAsItIs(t, "nothing to write", nodeElectCall(), nodeWith(n, func(n *impl.Node) { n.Fuel, n.Keep, n.Cut = fuel, 1, 2 }))
		}
	}
	for _, n := range someNodes() {
		wantNodeWords(t, "of each Role", nodeElectCall(), n)
	}
}

func TestNodeBeat(t *testing.T) {
	for _, n := range []impl.Node{followNode(), seekNode(), metaNode(followCore()), freshNode(0, 1, impl.KdMeta)} {
		for _, fuel := range []int{-1, 0, 1, 100} {
			wantNodeAsItIs(t, "it does not lead", nodeBeatCall(), nodeWith(n, func(n *impl.Node) { n.Fuel = fuel }))
		}
		wantNodeAsItIs(t, "down", nodeBeatCall(), downNode(n))
	}
	n := leadNode()
	wantNodeAsItIs(t, "down", nodeBeatCall(), downNode(n))
	entries := richWal().Entries
	for _, fuel := range []int{-1, 0, 1, 100} {
		x := nodeWith(n, func(n *impl.Node) { n.Fuel = fuel })
		wantNode(t, "it leads", nodeBeatCall(), x, nodeAnswer{n: x, said: []impl.Msg{appMsg(1, 0, 6, 7, 3, 8, entries...), appMsg(1, 2, 6, 9, 3, 8, entries[2:]...)}})
		// One that lacks what is put away is sent the Snap.
		x = nodeWith(x, func(n *impl.Node) { n.Core.Next, n.Core.Match = []int{7, 12, 1}, []int{2, 11, 0} })
		wantNode(t, "with its Snap", nodeBeatCall(), x, nodeAnswer{n: x, said: []impl.Msg{snapMsg(1, 0, 6, 7, 3, n.Snap.Data), snapMsg(1, 2, 6, 7, 3, n.Snap.Data)}})
		x.Core.Next[0] = 8
		wantNode(t, "with its Snap to one of them", nodeBeatCall(), x, nodeAnswer{n: x, said: []impl.Msg{appMsg(1, 0, 6, 7, 3, 8, entries...), snapMsg(1, 2, 6, 7, 3, n.Snap.Data)}})
	}
	for _, n := range someNodes() {
		wantNodeWords(t, "of each Role", nodeBeatCall(), n)
	}
}

// cmdData is a client's call as the Data of an Entry.
func cmdData(client, serial int, o impl.Op) string {
	return strings.Join(cmdParts(impl.Cmd{Client: client, Serial: serial, Op: o}), "")
}

func cmdEntry(term, client, serial int, o impl.Op) impl.Entry {
	return impl.Entry{Term: term, Data: cmdData(client, serial, o)}
}

func opText(o impl.Op) string {
	return strings.Join(opParts(o), "")
}

// wantPutAway wants what promise 18 says: State and Commit as they were, and, whatever a fall takes, the node rises with both.
func wantPutAway(t *testing.T, name string, n impl.Node, got nodeAnswer) {
	t.Helper()
	x := got.n
	if !got.ok || !x.Up || len(got.said) > 0 || !sameState(x.State, n.State) || x.Core.Commit != n.Core.Commit {
		t.Fatalf("%s: %s\nbecame %s", name, brief(n), brief(got))
	}
	left := n.Core.Log[n.Core.Commit-n.Core.Base:]
	want := coreWith(n.Core, func(c *impl.Core) { c.BaseTerm, c.Base, c.Log = slowTermAt(*c, c.Commit), c.Commit, left })
	snap := impl.Snap{Index: n.Core.Commit, Term: want.BaseTerm, Data: impl.ShowState(n.State)}
	if !sameCore(x.Core, want) || x.Snap != snap {
		t.Fatalf("%s: %s\nbecame %s", name, brief(n), brief(x))
	}
	for _, keep := range []int{0, 1, 20} {
		risen := wantRises(t, name, x, keep, keep*1000)
		if !sameState(risen.State, n.State) || risen.Core.Commit != n.Core.Commit {
			t.Fatalf("%s: %s\nrises as %s", name, brief(n), brief(risen))
		}
	}
}

func TestNodeCompact(t *testing.T) {
	for _, n := range []impl.Node{followNode(), seekNode(), leadNode(), metaNode(seekCore()), shardNode(leadCore())} {
		wantNodeAsItIs(t, "down", nodeCompactCall(), downNode(n))
		for commit := 7; commit <= 11; commit++ {
			x := nodeWith(n, func(n *impl.Node) { n.Core.Commit = commit })
			if commit == 7 {
				for _, fuel := range []int{-1, 0, 1, 100} {
					wantNodeAsItIs(t, "Commit is Base", nodeCompactCall(), nodeWith(x, func(n *impl.Node) { n.Fuel = fuel }))
				}
				continue
			}
			name := fmt.Sprint("at ", commit)
			got := wantNodeWords(t, name, nodeCompactCall(), x)
			wantPutAway(t, name, x, got)
			if !slices.Equal(impl.List(got.n.Disk), []string{"log", "snap"}) || !isSafe(got.n.Disk) {
				t.Fatalf("%s: %s", name, brief(got.n.Disk))
			}
			wantNodeAsItIs(t, name+", again", nodeCompactCall(), got.n)
			for _, keep := range []int{0, 1, 2, 20} {
				for _, cut := range []int{0, 1, 50, 1048576} {
					byFuel(t, name, x, nodeCompactCall(), keep, cut, 10)
				}
			}
		}
	}
	for _, n := range append(someNodes(), upNode(coreWith(followCore(), func(c *impl.Core) { c.Commit = 11 }), keptShard(), fullShard()), upNode(coreWith(followCore(), func(c *impl.Core) { c.Commit = 11 }), keptMeta(), fullMeta()), upNode(coreWith(leadOver(1, 3, 6, 0, 0, 2, entriesOf(1, 2)...), func(c *impl.Core) {}), keptShard(), richShard())) {
		got := wantNodeWords(t, "of each Role", nodeCompactCall(), n)
		if got.ok != (n.Core.Commit > n.Core.Base) {
			t.Fatalf("%s becomes %s", brief(n), brief(got))
		}
		if got.ok {
			wantPutAway(t, "of each Role", n, got)
		}
	}
}

// A node that puts its log away on a disk without room goes down, and rises with what it had.
func TestNodeCompactOnAFullDisk(t *testing.T) {
	first := upNode(leadOver(1, 3, 6, 0, 0, 1, entriesOf(1, 2, 5, 6)...), keptShard(), nowShard())
	withSnap := nodeWith(followNode(), func(n *impl.Node) { n.Core.Commit = 10 })
	if got := wantRooms(t, "the first Snap", first); got.up == 0 || got.noSnap == 0 || got.noLog == 0 {
		t.Errorf("%+v", got)
	}
	if got := wantRooms(t, "another Snap", withSnap); got.up == 0 || got.noSnap == 0 {
		t.Errorf("%+v", got)
	}
	n := withSnap
	for _, change := range []func(n *impl.Node){
		func(n *impl.Node) { n.Disk.Next = impl.MaxId }, func(n *impl.Node) { n.Disk.Next = impl.MaxId - 1 },
		func(n *impl.Node) {
			n.Disk = keptDisk(slowWalOf(n.Core), n.Snap, "a", "b", "c", "d", "e", "f", "g", "h")
		},
	} {
		x := nodeWith(n, change)
		got := wantNodeWords(t, "no Id, or no place for a file", nodeCompactCall(), x)
		if got.ok || got.n.Up {
			t.Fatalf("%s becomes %s", brief(x), brief(got))
		}
	}
	x := nodeWith(n, func(n *impl.Node) {
		n.Disk = keptDisk(slowWalOf(n.Core), n.Snap, "a", "b", "c", "d", "e", "f", "g")
	})
	wantPutAway(t, "one file less", x, wantNodeWords(t, "one file less", nodeCompactCall(), x))
}

// A roomCount is how often there was room for all, none for the Snap, and some for the Snap but none for the log.
type roomCount struct {
	up, noSnap, noLog int
}

// wantRooms has a node put its log away with each room from what it uses on.
func wantRooms(t *testing.T, name string, n impl.Node) roomCount {
	t.Helper()
	free := nodeCompactCall().do(n)
	used := slowBytes(n.Disk)
	snap, _ := impl.Load(free.n.Disk, "snap")
	log, _ := impl.Load(free.n.Disk, "log")
	old, _ := impl.Load(n.Disk, "snap")
	var many roomCount
	for room := used; room <= used+len(snap)+len(log); room++ {
		x := nodeWith(n, func(n *impl.Node) { n.Disk.Room = room })
		got := wantNodeWords(t, fmt.Sprint(name, ", room ", room), nodeCompactCall(), x)
		// The new files stand beside the old ones until their names are safe.
		snapFits := room >= used+len(snap)
		allFits := snapFits && room >= used-len(old)+len(snap)+len(log)
		if got.ok != allFits || got.n.Up != got.ok {
			t.Fatalf("%s, room %d of %d: %s", name, room, used, brief(got))
		}
		if got.ok {
			many.up++
			wantPutAway(t, name, x, got)
			continue
		}
		risen, ok := impl.NodeRise(got.n)
		if !snapFits {
			many.noSnap++
			if !ok || !sameWal(slowWalOf(risen.Core), slowWalOf(n.Core)) || risen.Snap != n.Snap {
				t.Fatalf("%s, room %d: it rises as %s", name, room, brief(risen))
			}
			continue
		}
		// The Snap is new and the log is the old one: to rise it has to be written again, for which there is no room, either.
		many.noLog++
		if ok || risen.Up || !impl.NodeOk(risen) {
			t.Fatalf("%s, room %d: it rises as %s", name, room, brief(risen))
		}
		risen.Disk.Room = 1048576
		if risen, ok = impl.NodeRise(risen); !ok || keptNow(risen).Snap != free.n.Snap || !sameWal(slowWalOf(risen.Core), slowWalOf(free.n.Core)) || !sameState(risen.State, n.State) {
			t.Fatalf("%s, room %d: with more room it rises as %s", name, room, brief(risen))
		}
	}
	return many
}

// Elect and what is heard on a disk without room: it goes down and says nothing.
func TestNodesOnAFullDisk(t *testing.T) {
	calls := map[string]nodeCall{"NodeElect": nodeElectCall(), "a vote": nodeHearCall(voteMsg(2, 1, 6, 11, 6)), "an Entry": nodeHearCall(appMsg(0, 1, 6, 11, 6, 0, oneEntry(6, "n")...)), "a later Term": nodeHearCall(votedMsg(0, 1, 7, true)), "a Snap": nodeHearCall(snapMsg(0, 1, 6, 20, 6, imageOf(nowShard()).text()))}
	for name, call := range calls {
		n := followNode()
		free := wantNodeWords(t, name, call, n)
		ups := 0
		for room := slowBytes(n.Disk); room < slowBytes(n.Disk)+250; room++ {
			x := nodeWith(n, func(n *impl.Node) { n.Disk.Room = room })
			got := wantNodeWords(t, fmt.Sprint(name, ", room ", room), call, x)
			if got.n.Up {
				ups++
				if !slices.EqualFunc(got.said, free.said, sameMsg) || !sameCore(got.n.Core, free.n.Core) {
					t.Fatalf("%s, room %d: %s", name, room, brief(got))
				}
				continue
			}
			if ups > 0 || len(got.said) > 0 {
				t.Fatalf("%s, room %d: %s", name, room, brief(got))
			}
			if risen, ok := impl.NodeRise(got.n); ok && risen.Snap == n.Snap && !sameWal(slowWalOf(risen.Core), slowWalOf(n.Core)) {
				t.Fatalf("%s, room %d: it rises as %s", name, room, brief(risen))
			}
		}
		if ups == 0 || ups == 250 {
			t.Errorf("%s: up %d times", name, ups)
		}
	}
	// What writes nothing needs no room.
	for _, n := range []impl.Node{followNode(), leadNode()} {
		x := nodeWith(n, func(n *impl.Node) { n.Disk.Room = slowBytes(n.Disk) })
		for _, call := range []nodeCall{nodeBeatCall(), nodeHearCall(appMsg(0, 1, 5, 0, 0, 0)), nodeHearCall(voteMsg(0, 1, 6, 1, 1)), nodeHearCall(callMsg(12, 1, 7, flushText))} {
			if got := wantNodeWords(t, "nothing to write", call, x); !got.n.Up {
				t.Fatalf("%s: %s", call.name, brief(got))
			}
		}
	}
}

// keptNow is what the node rose with.
func keptNow(n impl.Node) impl.Kept {
	return impl.Kept{Wal: slowWalOf(n.Core), Snap: n.Snap}
}

// The four that a node may rise with, by promise 17.
const (
	oldOnes = iota
	newOnes
	newSnapOldLog
	someChanges
)

// wayOf is which of the four it is that a node rose with, -1 where it is none.
func wayOf(risen, past, next impl.Kept) int {
	switch {
	case sameKept(risen, past):
		return oldOnes
	case sameKept(risen, next):
		return newOnes
	case next.Snap != past.Snap && sameKept(risen, impl.Kept{Wal: slowBehind(past.Wal, next.Snap), Snap: next.Snap}):
		return newSnapOldLog
	}
	w := copyWal(past.Wal)
	recs, _ := slowChanges(past.Wal, next.Wal)
	for _, r := range recs {
		w, _ = slowStep(w, r)
		if next.Snap == past.Snap && sameKept(risen, impl.Kept{Wal: w, Snap: past.Snap}) {
			return someChanges
		}
	}
	return -1
}

// wantFourWays has power fall at each step of a call, and wants it to say nothing and to rise with one of the four; and, all done, to rise with the new ones. It tells how often each of the four was there.
func wantFourWays(t *testing.T, name string, n impl.Node, call nodeCall) [4]int {
	t.Helper()
	free := wantNodeWords(t, name, call, n)
	past, next := keptNow(n), keptNow(free.n)
	var ways [4]int
	for fuel := 0; ; fuel++ {
		var got nodeAnswer
		for _, keep := range []int{0, 1, 2, 3, 20} {
			for _, cut := range cutsFor(n, free.n) {
				x, _ := impl.NodeFuel(n, fuel, keep, cut)
				got = call.do(x)
				if got.n.Up {
					for _, after := range []int{0, 20} {
						wantRises(t, name, got.n, after, cut)
					}
					continue
				}
				risen, ok := impl.NodeRise(got.n)
				if !ok || len(got.said) > 0 || got.ok || !impl.NodeOk(risen) {
					t.Fatalf("%s, Fuel %d, Keep %d, Cut %d: %s rises as %s", name, fuel, keep, cut, brief(got), brief(risen))
				}
				way := wayOf(keptNow(risen), past, next)
				if way < 0 || risen.Core.Role != impl.RlFollow || risen.Core.Lead != -1 || risen.Core.Commit != risen.Core.Base {
					t.Fatalf("%s, Fuel %d, Keep %d, Cut %d: %s\nrises as %s\nwas %s\nwould be %s", name, fuel, keep, cut, brief(got.n), brief(risen), brief(past), brief(next))
				}
				ways[way]++
				if state := wantStateOf(t, risen); !sameState(risen.State, state) {
					t.Fatalf("%s: it rises with the state %s", name, brief(risen.State))
				}
			}
		}
		if got.n.Up {
			return ways
		}
	}
}

// wantStateOf is the state that the node's Snap holds.
func wantStateOf(t *testing.T, n impl.Node) impl.State {
	t.Helper()
	if n.Snap == (impl.Snap{}) {
		return impl.State{Kind: n.Kind}
	}
	s, ok := impl.ReadState(n.Snap.Data)
	if !ok {
		t.Fatalf("%s is no state", brief(n.Snap))
	}
	return s
}

// cutsFor are all cuts of what is added to a log where that is short, else those near its ends and at its frames.
func cutsFor(a, b impl.Node) []int {
	one, _ := impl.Load(a.Disk, "log")
	other, _ := impl.Load(b.Disk, "log")
	l := []int{0, 1, 7, 8, 11, 12, 13, 1048576}
	if strings.HasPrefix(other, one) {
		at := 0
		for _, body := range slowBodies(other[len(one):]) {
			at += 8 + len(body)
			l = append(l, at-1, at, at+1)
		}
	}
	slices.Sort(l)
	return slices.Compact(l)
}

func TestNodesFallAtEachStep(t *testing.T) {
	meta, shard := imageOf(nowMeta()).text(), imageOf(nowShard()).text()
	n, lead := followNode(), leadNode()
	alone := upNode(leadOver(0, 1, 6, 7, 3, 8, richWal().Entries...), keptMeta(), nowMeta())
	agreed := nodeWith(n, func(n *impl.Node) { n.Core.Commit = 10 })
	for _, c := range []struct {
		name string
		n    impl.Node
		call nodeCall
		want [4]bool
	}{
		{"it seeks", n, nodeElectCall(), [4]bool{true, true, false, false}},
		{"it comes to lead alone", freshNode(0, 1, impl.KdMeta), nodeElectCall(), [4]bool{true, true, false, true}},
		{"it votes", n, nodeHearCall(voteMsg(2, 1, 6, 11, 6)), [4]bool{true, true, false, false}},
		{"it votes in a later Term", n, nodeHearCall(voteMsg(2, 1, 9, 11, 6)), [4]bool{true, true, false, false}},
		{"it takes an Entry", n, nodeHearCall(appMsg(0, 1, 6, 11, 6, 0, oneEntry(6, "n")...)), [4]bool{true, true, false, false}},
		{"it takes four", n, nodeHearCall(appMsg(0, 1, 6, 11, 6, 13, sameEntries(4, 6, "n")...)), [4]bool{true, true, false, true}},
		{"it takes others in a later Term", n, nodeHearCall(appMsg(0, 1, 8, 9, 3, 13, sameEntries(4, 7, "n")...)), [4]bool{true, true, false, true}},
		{"it steps down", lead, nodeHearCall(votedMsg(0, 1, 7, true)), [4]bool{true, true, false, false}},
		{"a call", lead, nodeHearCall(callMsg(12, 1, 8, flushText)), [4]bool{true, true, false, false}},
		{"a call of one alone", alone, nodeHearCall(callMsg(12, 0, 8, flushText)), [4]bool{true, true, false, false}},
		{"a Snap beyond the log", n, nodeHearCall(snapMsg(0, 1, 6, 20, 6, shard)), [4]bool{true, true, false, false}},
		{"a Snap in a later Term", n, nodeHearCall(snapMsg(0, 1, 9, 20, 6, shard)), [4]bool{true, true, true, false}},
		{"a Snap in the log, in a later Term", n, nodeHearCall(snapMsg(0, 1, 9, 9, 3, shard)), [4]bool{true, true, true, false}},
		{"a Snap of another term in the log", metaNode(followCore()), nodeHearCall(snapMsg(0, 1, 6, 9, 5, meta)), [4]bool{true, true, false, false}},
		{"a first Snap", freshNode(1, 3, impl.KdMeta), nodeHearCall(snapMsg(0, 1, 6, 9, 5, meta)), [4]bool{true, true, true, false}},
		{"it puts its log away", agreed, nodeCompactCall(), [4]bool{true, true, false, false}},
		{"it puts its log away and leads", nodeWith(lead, func(n *impl.Node) { n.Core.Commit = 11 }), nodeCompactCall(), [4]bool{true, true, false, false}},
		{"it puts its first log away", upNode(leadOver(1, 3, 6, 0, 0, 2, entriesOf(1, 2, 5)...), keptShard(), nowShard()), nodeCompactCall(), [4]bool{true, true, false, false}},
	} {
		ways := wantFourWays(t, c.name, c.n, c.call)
		for way, want := range c.want {
			if (ways[way] > 0) != want {
				t.Errorf("%s: %v times", c.name, ways)
			}
		}
	}
}

// between are messages between servers to node 1, of each kind and each Term about 6.
func between() []impl.Msg {
	var l []impl.Msg
	for _, term := range []int{5, 6, 7} {
		l = append(l, voteMsg(0, 1, term, 11, min(term, 6)), voteMsg(2, 1, term, 3, 1), votedMsg(0, 1, term, true), votedMsg(2, 1, term, false),
			appMsg(0, 1, term, 11, 5, 0), appMsg(2, 1, term, 10, 5, 11), appMsg(0, 1, term, 8, 3, 10), appMsg(0, 1, term, 30, 4, 30), appMsg(2, 1, term, 9, 3, 10, sameEntries(4, 5, "n")...),
			appedMsg(0, 1, term, 11, true), appedMsg(2, 1, term, 10, true), appedMsg(0, 1, term, 3, false), snapMsg(0, 1, term, 8, 3, imageOf(nowShard()).text()), snapMsg(0, 1, term, 9, 3, imageOf(nowShard()).text()), snapMsg(2, 1, term, 30, 5, imageOf(nowMeta()).text()), snapMsg(2, 1, term, 30, 5, "none"))
	}
	return l
}

// roleNodes follow, seek and lead, of both Kinds, all with Id 1.
func roleNodes() []impl.Node {
	var l []impl.Node
	for _, c := range []impl.Core{followCore(), seekCore(), leadCore(), coreWith(followCore(), func(c *impl.Core) { c.Lead, c.Commit = 0, 11 })} {
		l = append(l, shardNode(c), metaNode(c))
	}
	return l
}

func TestNodeHearOfWhatIsNotForIt(t *testing.T) {
	for _, n := range roleNodes() {
		for _, m := range append(between(), callMsg(12, 1, 7, flushText), callMsg(12, 1, 8, flushText)) {
			wantNodeAsItIs(t, "it is down", nodeHearCall(m), downNode(n))
			for _, to := range []int{-1, 0, 2, 3, 4, 5, 11, math.MaxInt} {
				x := m
				x.To = to
				wantNodeAsItIs(t, "to another one", nodeHearCall(x), n)
			}
			for i, turn := range []func(m *impl.Msg){
				func(m *impl.Msg) { m.Kind = 0 }, func(m *impl.Msg) { m.Kind = 8 }, func(m *impl.Msg) { m.Kind = -1 }, func(m *impl.Msg) { m.From = 1 }, func(m *impl.Msg) { m.From = 5 }, func(m *impl.Msg) { m.From = -1 }, func(m *impl.Msg) { m.From = 15 }, func(m *impl.Msg) { m.From = 10 },
				func(m *impl.Msg) { m.Term = -1 }, func(m *impl.Msg) { m.Term = 100001 }, func(m *impl.Msg) { m.Index = -1 }, func(m *impl.Msg) { m.Index = 1000001 }, func(m *impl.Msg) { m.IndexTerm = -1 }, func(m *impl.Msg) { m.Commit = -1 }, func(m *impl.Msg) { m.Commit = 100001 }, func(m *impl.Msg) { m.Entries = sameEntries(5, 6, "") }, func(m *impl.Msg) { m.Data += strings.Repeat("x", 30001) },
			} {
				x := m
				turn(&x)
				if !impl.MsgOk(x) {
					wantNodeAsItIs(t, fmt.Sprint("not MsgOk, ", i), nodeHearCall(x), n)
				}
			}
		}
		for _, m := range []impl.Msg{{}, toldMsg(1, 11, 1, toldText), toldMsg(0, 11, 1, toldText), toldMsg(0, 1, 1, toldText), {Kind: impl.MsTold, From: 11, To: 1, Index: 1, Data: toldText}} {
			wantNodeAsItIs(t, "what is told, or nothing", nodeHearCall(m), n)
		}
		// From a server that there is not.
		for _, m := range []impl.Msg{voteMsg(4, 1, 9, 20, 9), appMsg(3, 1, 9, 11, 6, 11), snapMsg(4, 1, 9, 20, 9, imageOf(keptShard()).text())} {
			if n.Peers == 3 {
				wantNodeAsItIs(t, "from nobody", nodeHearCall(m), n)
			}
		}
	}
}

// What servers say to each other leads to what the core becomes and says, and the disk has it.
func TestNodeHearOfServers(t *testing.T) {
	for _, n := range roleNodes() {
		for _, m := range between() {
			got := wantNodeWords(t, "between servers", nodeHearCall(m), n)
			_, fits := slowStateFor(n.Kind, m.Data)
			if m.Kind == impl.MsSnap && !fits {
				wantNodeAsItIs(t, "no state of its Kind", nodeHearCall(m), n)
				continue
			}
			c, said := impl.Hear(n.Core, m)
			if !sameCore(got.n.Core, c) || len(said) != len(got.said) {
				t.Fatalf("%s hears %s and becomes %s", brief(n), brief(m), brief(got))
			}
			for _, fuel := range []int{0, 1, 2, 3, 9, 10, 11} {
				wantNodeWords(t, fmt.Sprint("Fuel ", fuel), nodeHearCall(m), nodeWith(n, func(n *impl.Node) { n.Fuel, n.Keep, n.Cut = fuel, 1, 9 }))
			}
		}
	}
}

func TestNodeHearByHand(t *testing.T) {
	n := followNode()
	voted := wantNodeWords(t, "it votes", nodeHearCall(voteMsg(2, 1, 6, 11, 6)), n)
	if !slices.EqualFunc(voted.said, []impl.Msg{votedMsg(1, 2, 6, true)}, sameMsg) || voted.n.Core.Vote != 2 {
		t.Fatalf("it votes: %s", brief(voted))
	}
	for _, keep := range []int{0, 1, 20} {
		risen := wantRises(t, "it voted", voted.n, keep, keep)
		no := wantNodeWords(t, "it voted, and fell", nodeHearCall(voteMsg(0, 1, 6, 30, 6)), risen)
		if !slices.EqualFunc(no.said, []impl.Msg{votedMsg(1, 0, 6, false)}, sameMsg) {
			t.Fatalf("it votes twice: %s", brief(no))
		}
		yes := wantNodeWords(t, "it is asked again", nodeHearCall(voteMsg(2, 1, 6, 11, 6)), risen)
		if !slices.EqualFunc(yes.said, voted.said, sameMsg) || !sameDisk(yes.n.Disk, risen.Disk) {
			t.Fatalf("it is asked again: %s", brief(yes))
		}
	}
	taken := wantNodeWords(t, "it takes an Entry", nodeHearCall(appMsg(0, 1, 7, 11, 6, 0, oneEntry(7, "n")...)), n)
	if !slices.EqualFunc(taken.said, []impl.Msg{appedMsg(1, 0, 7, 12, true)}, sameMsg) {
		t.Fatalf("it takes an Entry: %s", brief(taken))
	}
	risen := wantRises(t, "it took an Entry", taken.n, 0, 0)
	if risen.Core.Term != 7 || risen.Core.Vote != -1 || slowLast(risen.Core) != 12 || risen.Core.Log[4] != (impl.Entry{Term: 7, Data: "n"}) {
		t.Fatalf("it took an Entry: %s", brief(risen))
	}
}

// stepsOf is how many steps the call writes.
func stepsOf(t *testing.T, n impl.Node, call nodeCall) int {
	t.Helper()
	got := call.do(nodeWith(n, func(n *impl.Node) { n.Fuel = 100 }))
	if !got.n.Up {
		t.Fatalf("%s of %s goes down", call.name, brief(n))
	}
	return 100 - got.n.Fuel
}

// All that is said is said only behind the last step, and just then.
func TestNodesSayNothingAheadOfTheLastStep(t *testing.T) {
	for _, n := range roleNodes() {
		calls := []nodeCall{nodeElectCall(), nodeBeatCall(), nodeCompactCall(), nodeHearCall(callMsg(12, 1, 8, flushText)), nodeHearCall(callMsg(12, 1, 7, flushText))}
		for _, m := range between() {
			calls = append(calls, nodeHearCall(m))
		}
		for _, call := range calls {
			steps := stepsOf(t, n, call)
			if steps != 0 && steps != 2 && steps != 10 {
				t.Fatalf("%s of %s has %d steps", call.name, brief(n), steps)
			}
			byFuel(t, call.name, n, call, 2, 5, steps)
		}
	}
}

func TestNodeHearSnap(t *testing.T) {
	shard, meta := imageOf(nowShard()).text(), imageOf(nowMeta()).text()
	fresh := impl.State{Kind: impl.KdShard}
	log := richWal().Entries
	for _, c := range []struct {
		name   string
		term   int
		index  int
		at     int
		behind []impl.Entry
	}{
		{"beyond the log", 6, 20, 6, nil}, {"just beyond the log", 6, 12, 6, nil}, {"beyond it, in a later Term", 8, 20, 7, nil}, {"at the last number", 6, 11, 6, nil}, {"at the last number, another term", 6, 11, 5, nil},
		{"in the log", 6, 10, 5, log[3:]}, {"in the log, another term", 6, 10, 6, nil}, {"just above Commit", 6, 9, 3, log[2:]}, {"just above Commit, in a later Term", 9, 9, 3, log[2:]},
	} {
		for _, n := range []impl.Node{followNode(), seekNode(), nodeWith(followNode(), func(n *impl.Node) { n.State = fresh })} {
			m := snapMsg(0, 1, c.term, c.index, c.at, shard)
			got := wantNodeWords(t, c.name, nodeHearCall(m), n)
			x := got.n
			vote := n.Core.Vote
			if c.term > 6 {
				vote = -1
			}
			want := impl.Core{Id: 1, Peers: n.Peers, Term: c.term, Vote: vote, Role: 1, Lead: 0, Base: c.index, BaseTerm: c.at, Log: c.behind, Commit: c.index}
			if !sameCore(x.Core, want) || !sameState(x.State, nowShard()) || x.Snap != (impl.Snap{Index: c.index, Term: c.at, Data: shard}) || !slices.EqualFunc(got.said, []impl.Msg{appedMsg(1, 0, c.term, c.index, true)}, sameMsg) {
				t.Fatalf("%s: %s", c.name, brief(got))
			}
			risen := wantRises(t, c.name, x, 0, 0)
			if !sameState(risen.State, nowShard()) {
				t.Fatalf("%s: it rises as %s", c.name, brief(risen))
			}
			for _, data := range []string{"", "x", meta, shard + "\x00", shard[1:], imageOf(impl.State{Kind: impl.KdMeta}).text()} {
				bad := m
				bad.Data = data
				wantNodeAsItIs(t, c.name+", no state of its Kind", nodeHearCall(bad), n)
			}
			byFuel(t, c.name, n, nodeHearCall(m), 1, 40, 10)
		}
	}
}

// A number that Commit has reached: the Snap is not taken, but the Term is, and Commit is told.
func TestNodeHearSnapThatIsReached(t *testing.T) {
	shard, meta := imageOf(nowShard()).text(), imageOf(nowMeta()).text()
	for _, c := range []struct{ term, index, at int }{{6, 1, 1}, {6, 7, 3}, {6, 8, 3}, {6, 8, 6}, {8, 8, 3}, {8, 3, 8}} {
		n := followNode()
		m := snapMsg(2, 1, c.term, c.index, c.at, shard)
		got := wantNodeWords(t, "reached", nodeHearCall(m), n)
		want := coreWith(n.Core, func(x *impl.Core) { x.Term, x.Lead = c.term, 2 })
		if !sameCore(got.n.Core, want) || !sameState(got.n.State, n.State) || got.n.Snap != n.Snap || !slices.EqualFunc(got.said, []impl.Msg{appedMsg(1, 2, c.term, 8, true)}, sameMsg) {
			t.Fatalf("%v: %s", c, brief(got))
		}
		m.Data = meta
		wantNodeAsItIs(t, "reached, a state of the other Kind", nodeHearCall(m), n)
		m.Data = "none"
		wantNodeAsItIs(t, "reached, no state", nodeHearCall(m), n)
	}
}

func TestNodeHearSnapOfAnotherTerm(t *testing.T) {
	shard, meta := imageOf(nowShard()).text(), imageOf(nowMeta()).text()
	got := wantNodeWords(t, "an older Term", nodeHearCall(snapMsg(0, 1, 5, 20, 5, shard)), followNode())
	if !slices.EqualFunc(got.said, []impl.Msg{appedMsg(1, 0, 6, 0, false)}, sameMsg) || !sameNode(got.n, followNode()) {
		t.Fatalf("an older Term: %s", brief(got))
	}
	wantNodeAsItIs(t, "an older Term, and no state", nodeHearCall(snapMsg(0, 1, 5, 20, 5, "none")), followNode())
	wantNodeAsItIs(t, "it leads", nodeHearCall(snapMsg(0, 1, 6, 20, 5, meta)), leadNode())
	down := wantNodeWords(t, "it leads, and a later Term", nodeHearCall(snapMsg(0, 1, 7, 20, 5, meta)), leadNode())
	if down.n.Core.Role != impl.RlFollow || down.n.Core.Base != 20 || !sameState(down.n.State, nowMeta()) {
		t.Fatalf("it leads, and a later Term: %s", brief(down))
	}
	// The greatest state there is.
	great := imageOf(fullShard()).text()
	if got := wantNodeWords(t, "a great state", nodeHearCall(snapMsg(0, 1, 6, 20, 6, great)), followNode()); !sameState(got.n.State, fullShard()) || got.n.Snap.Data != great {
		t.Fatalf("a great state: %s", brief(got))
	}
}

// callsLog is a log of calls: 1 is none, 2 and 3 are the first and second of client 1, 4 is no call, 5 the second again, 6 one out of its turn, 7 the first again, 8 the first of client 3, which is of the other Kind, 9 the third of client 1.
func callsLog(term int) []impl.Entry {
	return []impl.Entry{
		{Term: term}, cmdEntry(term, 1, 1, writeOp("cpu", pointsAt(10, 1, 20, 2))), cmdEntry(term, 1, 2, readOp("cpu", 0, 100)), {Term: term, Data: "no call"}, cmdEntry(term, 1, 2, raiseOp(15)), cmdEntry(term, 1, 5, flushOp()),
		cmdEntry(term, 1, 1, flushOp()), cmdEntry(term, 3, 1, routeOp(0, 300)), cmdEntry(term, 1, 3, readOp("cpu", 0, 15)),
	}
}

// toldBy is what one that leads tells of callsLog, by the numbers at which it does.
func toldBy(id int) map[int]impl.Msg {
	block := func(numbers ...int) string { return slowShowBlock(pointsAt(numbers...)) }
	return map[int]impl.Msg{
		2: slowTold(id, 1, 1, impl.Answer{Index: 2}),
		3: slowTold(id, 1, 2, impl.Answer{Index: 3, Data: block(10, 1, 20, 2)}),
		5: slowTold(id, 1, 2, impl.Answer{Index: 3, Data: block(10, 1, 20, 2)}),
		8: slowTold(id, 3, 1, impl.Answer{Index: 8, Code: impl.AnNone}),
		9: slowTold(id, 1, 3, impl.Answer{Index: 9, Data: block(10, 1)}),
	}
}

// callsState is what callsLog comes to up to the number.
func callsState(number int) impl.State {
	s := impl.State{Kind: impl.KdShard}
	for i, e := range callsLog(1)[:number] {
		if x, ok := impl.ReadCmd(e.Data); ok {
			s, _, _ = impl.Serve(s, x.Client, x.Serial, x.Op, i+1)
		}
	}
	return s
}

// toldFrom are the messages of toldBy above one number and up to another.
func toldFrom(id, above, to int) []impl.Msg {
	var l []impl.Msg
	for number := above + 1; number <= to; number++ {
		if m, there := toldBy(id)[number]; there {
			l = append(l, m)
		}
	}
	return l
}

// callsNode has callsLog, the state up to Commit, and the core's Role.
func callsNode(c impl.Core, commit int) impl.Node {
	c.Log, c.Commit = callsLog(6), commit
	return upNode(c, callsState(0), callsState(commit))
}

// Entries that are agreed on are served in their order; one that follows or seeks tells nothing of it.
func TestNodesServeWhatIsAgreedOn(t *testing.T) {
	for from := range 10 {
		for to := range 11 {
			n := callsNode(coreWith(newCore(1, 3), func(c *impl.Core) { c.Term = 6 }), from)
			got := wantNodeWords(t, "it follows", nodeHearCall(appMsg(0, 1, 6, 9, 6, to)), n)
			commit := max(from, min(to, 9))
			if got.n.Core.Commit != commit || !sameState(got.n.State, callsState(commit)) || !slices.EqualFunc(got.said, []impl.Msg{appedMsg(1, 0, 6, 9, true)}, sameMsg) {
				t.Fatalf("from %d to %d: %s", from, to, brief(got))
			}
			if !sameDisk(got.n.Disk, n.Disk) {
				t.Fatalf("from %d to %d: what is agreed on is not written: %s", from, to, brief(got.n.Disk))
			}
			seek := callsNode(coreWith(newCore(1, 3), func(c *impl.Core) { c.Term, c.Role, c.Vote, c.Yes = 6, impl.RlSeek, 1, []int{1} }), from)
			if x := wantNodeWords(t, "it seeks", nodeHearCall(appMsg(0, 1, 6, 9, 6, to)), seek); !sameState(x.n.State, callsState(commit)) || len(x.said) != 1 {
				t.Fatalf("from %d to %d: %s", from, to, brief(x))
			}
		}
	}
	// The Entries come with the message that tells that they are agreed on.
	n := freshNode(1, 3, impl.KdShard)
	for at := 0; at < 9; at += 3 {
		m := appMsg(0, 1, 6, at, min(at, 1)*6, 9, callsLog(6)[at:at+3]...)
		got := wantNodeWords(t, "batch by batch", nodeHearCall(m), n)
		if !sameState(got.n.State, callsState(at+3)) || got.n.Core.Commit != at+3 || len(got.said) != 1 {
			t.Fatalf("behind %d: %s", at+3, brief(got))
		}
		n = got.n
	}
}

// callsLead leads with callsLog; all others have nothing.
func callsLead(peers, commit int) impl.Node {
	return callsNode(leadOver(1, peers, 6, 0, 0, 0, callsLog(6)...), commit)
}

// One that leads serves them, too, and tells the clients behind what it says to servers.
func TestOneThatLeadsTellsClients(t *testing.T) {
	for from := range 10 {
		for to := 1; to < 11; to++ {
			n := callsLead(3, from)
			got := wantNodeWords(t, "it leads", nodeHearCall(appedMsg(0, 1, 6, to, true)), n)
			commit := max(from, min(to, 9))
			var said []impl.Msg
			if to < 9 {
				said = append(said, appMsg(1, 0, 6, to, 6, commit, callsLog(6)[to:min(to+4, 9)]...))
			}
			said = append(said, toldFrom(1, from, commit)...)
			if got.n.Core.Commit != commit || !sameState(got.n.State, callsState(commit)) || !slices.EqualFunc(got.said, said, sameMsg) {
				t.Fatalf("from %d to %d: %s\nwant %s", from, to, brief(got), brief(said))
			}
		}
		// One alone comes to lead: all that it has is agreed on by that.
		alone := callsNode(coreWith(newCore(0, 1), func(c *impl.Core) { c.Term = 6 }), from)
		got := wantNodeWords(t, "alone", nodeElectCall(), alone)
		if got.n.Core.Commit != 10 || !sameState(got.n.State, callsState(9)) || !slices.EqualFunc(got.said, toldFrom(0, from, 9), sameMsg) {
			t.Fatalf("alone, from %d: %s", from, brief(got))
		}
		for fuel := range 2 {
			x := nodeWith(alone, func(n *impl.Node) { n.Fuel = fuel })
			if got := wantNodeWords(t, "alone, without Fuel", nodeElectCall(), x); got.n.Up || len(got.said) > 0 {
				t.Fatalf("alone, Fuel %d: %s", fuel, brief(got))
			}
		}
	}
	// One that has put a part of it away tells the rest; to one that lacks that part it sends the Snap.
	n := callsLead(3, 2)
	put, ok := impl.NodeCompact(n)
	if !ok {
		t.Fatalf("%s is not put away", brief(n))
	}
	put.Core.Next = []int{1, 10, 1}
	got := wantNodeWords(t, "a part is put away", nodeHearCall(appedMsg(0, 1, 6, 9, true)), put)
	if !slices.EqualFunc(got.said, toldFrom(1, 2, 9), sameMsg) {
		t.Fatalf("a part is put away: %s", brief(got))
	}
	beat := wantNodeWords(t, "Beat", nodeBeatCall(), put)
	if want := []impl.Msg{snapMsg(1, 0, 6, 2, 6, impl.ShowState(callsState(2))), snapMsg(1, 2, 6, 2, 6, impl.ShowState(callsState(2)))}; !slices.EqualFunc(beat.said, want, sameMsg) {
		t.Fatalf("Beat: %s", brief(beat))
	}
	// A new leader counts no Entry of an older Term, so tells nothing.
	seek := callsNode(coreWith(newCore(1, 3), func(c *impl.Core) { c.Term, c.Role, c.Vote, c.Yes = 7, impl.RlSeek, 1, []int{1} }), 1)
	led := wantNodeWords(t, "it comes to lead", nodeHearCall(votedMsg(2, 1, 7, true)), seek)
	if led.n.Core.Role != impl.RlLead || led.n.Core.Commit != 1 || len(led.said) != 2 {
		t.Fatalf("it comes to lead: %s", brief(led))
	}
	none := wantNodeWords(t, "an older Term", nodeHearCall(appedMsg(0, 1, 7, 9, true)), led.n)
	if none.n.Core.Commit != 1 || len(none.said) != 1 {
		t.Fatalf("an older Term: %s", brief(none))
	}
	all := wantNodeWords(t, "its own Entry", nodeHearCall(appedMsg(0, 1, 7, 10, true)), none.n)
	if all.n.Core.Commit != 10 || !slices.EqualFunc(all.said, toldFrom(1, 1, 9), sameMsg) {
		t.Fatalf("its own Entry: %s", brief(all))
	}
}

// A callCase is a call of a client to nowShard or nowMeta, where client 2 has the serial 7, client 4 the serial 1, and the others none.
type callCase struct {
	client, serial int
	told           bool
	next           bool
}

func callCases() []callCase {
	return []callCase{
		{1, 1, false, true}, {1, 2, false, false}, {1, 3, false, false}, {1, 1000000, false, false}, {2, 1, false, false}, {2, 5, false, false}, {2, 6, false, false}, {2, 7, true, false}, {2, 8, false, true}, {2, 9, false, false}, {2, 10, false, false},
		{3, 1, false, true}, {3, 2, false, false}, {4, 1, true, false}, {4, 2, false, true}, {4, 3, false, false}, {4, 1000000, false, false},
	}
}

func TestNodeHearCall(t *testing.T) {
	ops := append(shardOps(), metaOps()...)
	for _, n := range roleNodes() {
		for _, c := range callCases() {
			for _, o := range ops {
				m := callMsg(10+c.client, 1, c.serial, opText(o))
				switch {
				case c.told:
					// Whoever has told the client already tells it again, whatever it asks for now.
					want := slowTold(1, c.client, c.serial, sessionAt(c.client, c.serial).Answer)
					wantNode(t, "the last serial", nodeHearCall(m), n, nodeAnswer{n: n, said: []impl.Msg{want}})
				case c.next && n.Core.Role == impl.RlLead:
					got := wantNodeWords(t, "the next serial", nodeHearCall(m), n)
					wantProposed(t, n, got, cmdData(c.client, c.serial, o))
				default:
					wantNodeAsItIs(t, "another serial, or it does not lead", nodeHearCall(m), n)
				}
				wantNodeAsItIs(t, "down", nodeHearCall(m), downNode(n))
			}
		}
	}
}

// wantProposed wants an Entry of this data behind the log, sent to all others, and nothing told, since nothing is agreed on by that.
func wantProposed(t *testing.T, n impl.Node, got nodeAnswer, data string) {
	t.Helper()
	c, said, number := impl.Propose(n.Core, data)
	if number == 0 || !sameCore(got.n.Core, c) || !slices.EqualFunc(got.said, said, sameMsg) || len(said) != n.Peers-1 || !sameState(got.n.State, n.State) {
		t.Fatalf("%s becomes %s", brief(n), brief(got))
	}
	if last := got.n.Core.Log[len(got.n.Core.Log)-1]; last != (impl.Entry{Term: n.Core.Term, Data: data}) || got.n.Core.Commit != n.Core.Commit {
		t.Fatalf("%s becomes %s", brief(n), brief(got))
	}
	wantRises(t, "proposed", got.n, 20, 100)
}

// underWay leads with these Entries behind what is agreed on.
func underWay(entries ...impl.Entry) impl.Node {
	c := leadOver(1, 3, 6, 7, 3, 8, append([]impl.Entry{{Term: 3}, {Term: 5}}, entries...)...)
	return shardNode(c)
}

func TestNodeHearCallThatIsUnderWay(t *testing.T) {
	m := callMsg(12, 1, 8, opText(raiseOp(9)))
	for _, c := range []struct {
		name    string
		entries []impl.Entry
		there   bool
	}{
		{"nothing", nil, false}, {"no calls", []impl.Entry{{Term: 6, Data: "x"}, {Term: 6}}, false}, {"the same call", []impl.Entry{cmdEntry(6, 2, 8, raiseOp(9))}, true}, {"another op", []impl.Entry{cmdEntry(6, 2, 8, flushOp())}, true}, {"an op of the other Kind", []impl.Entry{cmdEntry(6, 2, 8, markOp(9))}, true},
		{"of an older Term", []impl.Entry{cmdEntry(5, 2, 8, raiseOp(9))}, true}, {"behind others", []impl.Entry{{Term: 6}, cmdEntry(6, 1, 1, raiseOp(9)), {Term: 6, Data: "y"}, cmdEntry(6, 2, 8, flushOp())}, true}, {"ahead of others", []impl.Entry{cmdEntry(6, 2, 8, flushOp()), {Term: 6}, cmdEntry(6, 1, 1, raiseOp(9))}, true},
		{"another client", []impl.Entry{cmdEntry(6, 1, 8, raiseOp(9)), cmdEntry(6, 3, 8, raiseOp(9))}, false}, {"another serial", []impl.Entry{cmdEntry(6, 2, 7, raiseOp(9)), cmdEntry(6, 2, 9, raiseOp(9)), cmdEntry(6, 2, 88, raiseOp(9))}, false}, {"nearly a call", []impl.Entry{{Term: 6, Data: cmdData(2, 8, raiseOp(9)) + "x"}, {Term: 6, Data: cmdData(2, 8, raiseOp(9))[1:]}}, false},
	} {
		n := underWay(c.entries...)
		if c.there {
			wantNodeAsItIs(t, c.name, nodeHearCall(m), n)
			continue
		}
		wantProposed(t, n, wantNodeWords(t, c.name, nodeHearCall(m), n), cmdData(2, 8, raiseOp(9)))
	}
	// At a number that is agreed on it does not count: its session would tell.
	for commit := 8; commit <= 10; commit++ {
		n := underWay(cmdEntry(6, 2, 8, raiseOp(9)))
		n.Core.Commit = commit
		if commit < 10 {
			wantNodeAsItIs(t, "above Commit", nodeHearCall(m), n)
		} else {
			wantProposed(t, n, wantNodeWords(t, "at Commit", nodeHearCall(m), n), cmdData(2, 8, raiseOp(9)))
		}
	}
	// A call that is sent again and again is under way once.
	n := underWay()
	for i := range 5 {
		got := wantNodeWords(t, "again and again", nodeHearCall(m), n)
		if (len(got.said) > 0) != (i == 0) {
			t.Fatalf("%d: %s", i, brief(got))
		}
		n = got.n
	}
}

func TestNodeHearCallWithoutRoom(t *testing.T) {
	m := callMsg(12, 1, 8, flushText)
	for _, at := range []struct {
		base, many int
		room       bool
	}{{0, 58, true}, {0, 59, true}, {0, 60, false}, {7, 59, true}, {7, 60, false}, {99939, 60, false}, {99940, 59, true}, {99940, 60, false}, {99998, 1, true}, {99999, 1, false}, {99999, 0, true}, {100000, 0, false}} {
		c := coreWith(leadCore(), func(c *impl.Core) { fill(c, at.base, at.many) })
		n := shardNode(c)
		if !at.room {
			wantNodeAsItIs(t, fmt.Sprint(at), nodeHearCall(m), n)
			for _, fuel := range []int{0, 1} {
				wantNodeAsItIs(t, fmt.Sprint(at), nodeHearCall(m), nodeWith(n, func(n *impl.Node) { n.Fuel = fuel }))
			}
			told := wantNodeWords(t, fmt.Sprint(at), nodeHearCall(callMsg(12, 1, 7, flushText)), n)
			if len(told.said) != 1 {
				t.Fatalf("%v: %s", at, brief(told))
			}
			continue
		}
		wantProposed(t, n, wantNodeWords(t, fmt.Sprint(at), nodeHearCall(m), n), cmdData(2, 8, flushOp()))
	}
	// The last serial there is.
	n := nodeWith(shardNode(leadCore()), func(n *impl.Node) { n.State.Sessions[0] = sessionAt(2, 999999) })
	last := callMsg(12, 1, 1000000, flushText)
	wantProposed(t, n, wantNodeWords(t, "the last serial there is", nodeHearCall(last), n), cmdData(2, 1000000, flushOp()))
	n.State.Sessions[0] = sessionAt(2, 1000000)
	if got := wantNodeWords(t, "the last serial again", nodeHearCall(last), n); len(got.said) != 1 || got.said[0].Kind != impl.MsTold {
		t.Fatalf("the last serial again: %s", brief(got))
	}
	last.Index++
	wantNodeAsItIs(t, "behind the last serial", nodeHearCall(last), n)
}

// One alone agrees with itself at once: a call is served and told in one go, behind its two steps.
func TestNodeHearCallAlone(t *testing.T) {
	n, ok := impl.NodeNew(0, 1, 90000, impl.KdShard)
	if !ok {
		t.Fatal("no node")
	}
	n = wantNodeWords(t, "it leads", nodeElectCall(), n).n
	for serial := 1; serial <= 20; serial++ {
		points := pointsAt(10*serial, serial)
		m := callMsg(11, 0, serial, opText(writeOp("cpu", points)))
		byFuel(t, "a write", n, nodeHearCall(m), 1, 30, 2)
		got := wantNodeWords(t, "a write", nodeHearCall(m), n)
		if want := slowTold(0, 1, serial, impl.Answer{Index: 2 * serial}); len(got.said) != 1 || !sameMsg(got.said[0], want) {
			t.Fatalf("a write: %s\nwant %s", brief(got.said), brief(want))
		}
		again := wantNodeWords(t, "again", nodeHearCall(m), got.n)
		if !sameNode(again.n, got.n) || !slices.EqualFunc(again.said, got.said, sameMsg) {
			t.Fatalf("again: %s", brief(again))
		}
		n = got.n
		read := wantNodeWords(t, "a read", nodeHearCall(callMsg(12, 0, serial, opText(readOp("cpu", 10*serial, 10*serial+1)))), n)
		a, _ := impl.ReadAnswer(read.said[0].Data)
		if len(read.said) != 1 || read.said[0].To != 12 || a.Data != impl.ShowBlock(points) {
			t.Fatalf("a read: %s", brief(read))
		}
		n = read.n
		if serial%7 == 0 {
			got := wantNodeWords(t, "put away", nodeCompactCall(), n)
			wantPutAway(t, "put away", n, got)
			n = got.n
		}
	}
	risen := wantRises(t, "all of it", n, 0, 0)
	led := wantNodeWords(t, "it leads again", nodeElectCall(), risen)
	if !sameState(led.n.State, n.State) || len(led.said) != n.Core.Commit-n.Core.Base {
		t.Fatalf("it leads again: %s", brief(led))
	}
}

// shortState is a short state of the kind by chance; few clients have a session, with a small serial.
func shortState(r *rand.Rand, kind int) impl.State {
	var s impl.State
	if kind == impl.KdMeta {
		s = pick(r, metaState(0, 0), metaState(5, 150, dealt(1, 1, 5, 0)...), nowMeta(), keptMeta())
	} else {
		s = pick(r, shardState(impl.Engine{}), shardState(impl.Engine{Floor: 40}), nowShard(), keptShard(), shardState(impl.Engine{Files: []string{twoFile}}))
	}
	s.Sessions = nil
	for client := 1; client <= 4; client++ {
		if r.IntN(2) == 0 {
			s.Sessions = append(s.Sessions, sessionAt(client, 1+r.IntN(3)))
		}
	}
	return s
}

// nearOp is an op by chance, mostly of the kind.
func nearOp(r *rand.Rand, kind int) impl.Op {
	if r.IntN(8) == 0 {
		kind = 3 - kind
	}
	if kind == impl.KdMeta {
		return pick(r, routeOp(r.IntN(400), 400+r.IntN(400)), markOp(r.IntN(900)), holdOp(r.IntN(50)), routeOp(0, 5000))
	}
	at := 10 * r.IntN(30)
	return pick(r, writeOp(someKey(r), pointsAt(at, r.IntN(9), at+5, r.IntN(9))), readOp(someKey(r), 0, 100+at), raiseOp(at), flushOp())
}

// nearSerial is a serial by chance that has to do with the client's last one.
func nearSerial(r *rand.Rand, s impl.State, client int) int {
	return max(1, slowSession(s, client).Serial+pick(r, -1, 0, 0, 1, 1, 1, 1, 2))
}

func nearData(r *rand.Rand, s impl.State) string {
	client := 1 + r.IntN(4)
	return pick(r, "", "no call", cmdData(client, nearSerial(r, s, client), nearOp(r, s.Kind)), cmdData(client, nearSerial(r, s, client), nearOp(r, s.Kind)))
}

// rightNode is a right node by chance, mostly Up, with calls in its log, on disks of several kinds.
func rightNode(r *rand.Rand) impl.Node {
	c := rightCore(r)
	now := shortState(r, 1+r.IntN(2))
	for i := range c.Log {
		if r.IntN(3) > 0 {
			c.Log[i].Data = nearData(r, now)
		}
	}
	n := upNode(c, shortState(r, now.Kind), now)
	if r.IntN(4) == 0 {
		n.Disk = grownDisk(r, n)
	}
	if r.IntN(5) == 0 {
		n.Disk.Room = slowBytes(n.Disk) + r.IntN(300)
	}
	if r.IntN(2) == 0 {
		n.Fuel, n.Keep, n.Cut = r.IntN(12), r.IntN(5), pick(r, 0, r.IntN(40), 1048576)
	}
	if r.IntN(8) == 0 {
		n = downNode(n)
		n.Disk = leftDisk(r, n.Disk)
	}
	return n
}

// grownDisk tells the same as the node's disk: its log is one of fewer Entries, and the changes behind it.
func grownDisk(r *rand.Rand, n impl.Node) impl.Disk {
	w := slowWalOf(n.Core)
	fewer := impl.Wal{Term: w.Term, Vote: w.Vote, Base: w.Base, BaseTerm: w.BaseTerm, Entries: w.Entries[:r.IntN(len(w.Entries)+1)]}
	if r.IntN(2) == 0 && len(fewer.Entries) < 60 && w.Base+len(fewer.Entries) < 100000 && w.Term > 0 {
		fewer.Entries = append(slices.Clone(fewer.Entries), impl.Entry{Term: w.Term, Data: "gone"})
	}
	recs, _ := slowChanges(fewer, w)
	files := keptFiles(w, n.Snap)
	files["log"] = slowWalText(fewer) + logOf(recs...)
	if r.IntN(2) == 0 {
		files["other"] = "file"
	}
	return filesDisk(files)
}

// leftDisk is what may be left of a disk by chance: a file that is cut off, turned or gone, and files beside.
func leftDisk(r *rand.Rand, d impl.Disk) impl.Disk {
	d = copyDisk(d)
	for range pick(r, 0, 1, 1, 2) {
		name := pick(r, "log", "snap", "log.new", "snap.new", "other")
		at := slowAt(d.Dir, name)
		switch {
		case at < 0:
			d.Room = 1048576
			d = doneSteps(d, impl.Step{Kind: impl.StMake, Name: name}, impl.Step{Kind: impl.StAdd, Name: name, Data: "left"})
		case r.IntN(3) == 0:
			d = doneSteps(d, impl.Step{Kind: impl.StDrop, Name: name})
		default:
			i := slowFile(d, name)
			data := d.Inodes[i].Data
			d.Inodes[i].Data = pick(r, data[:r.IntN(len(data)+1)], data[:r.IntN(len(data)+1)]+"x"+data[len(data)/2:], data+"tail", "")
			d.Inodes[i].Sure = 0
			d.Room = 1048576
		}
		d = doneSteps(d, impl.Step{Kind: impl.StDir})
	}
	if r.IntN(6) == 0 {
		d.Room = slowBytes(d) + r.IntN(100)
	}
	return d
}

// doneSteps is the disk behind the steps, whatever they say.
func doneSteps(d impl.Disk, steps ...impl.Step) impl.Disk {
	for _, s := range steps {
		d, _ = impl.DoStep(d, s)
	}
	return d
}

// nearNodeMsg is a message by chance that has to do with what the node has.
func nearNodeMsg(r *rand.Rand, n impl.Node) impl.Msg {
	if r.IntN(4) == 0 {
		client := 1 + r.IntN(4)
		return callMsg(10+client, n.Id, nearSerial(r, n.State, client), opText(nearOp(r, n.Kind)))
	}
	c := n.Core
	if !n.Up {
		c = newCore(n.Id, n.Peers)
	}
	m := nearMsg(r, c)
	if c.Role == impl.RlLead && r.IntN(3) == 0 {
		m = appedMsg((c.Id+1)%5, c.Id, c.Term, min(c.Commit+1+r.IntN(slowLast(c)-c.Commit+1), 100000), true)
	}
	for i := range m.Entries {
		if r.IntN(3) > 0 {
			m.Entries[i].Data = nearData(r, impl.State{Kind: n.Kind, Sessions: n.State.Sessions})
		}
	}
	if m.Kind == impl.MsSnap && r.IntN(6) > 0 {
		m.Data = imageOf(shortState(r, pick(r, n.Kind, n.Kind, n.Kind, 3-n.Kind))).text()
	}
	return m
}

// someNodeCall is what may happen to a node by chance, mostly a message.
func someNodeCall(r *rand.Rand, n impl.Node) nodeCall {
	if !n.Up && r.IntN(3) > 0 {
		return riseCall()
	}
	switch r.IntN(16) {
	case 0, 1:
		return nodeElectCall()
	case 2:
		return nodeBeatCall()
	case 3, 4:
		return nodeCompactCall()
	case 5:
		return fuelCall(pick(r, -1, 0, 3, 100, 101), pick(r, -1, 0, 20, 21), pick(r, -1, 0, 1048576, 1048577))
	case 6:
		return fallCall(r.IntN(4)-1, r.IntN(30)-2)
	case 7:
		return riseCall()
	case 8:
		m := nearNodeMsg(r, n)
		turnMsg(r, &m)
		return nodeHearCall(m)
	}
	return nodeHearCall(nearNodeMsg(r, n))
}

// wantWay wants one that went down by what it was to write to rise, on a disk with room, with one of the four.
func wantWay(t *testing.T, n impl.Node, call nodeCall, got nodeAnswer) int {
	t.Helper()
	free := nodeAsSaid(call, nodeWith(n, func(n *impl.Node) { n.Fuel, n.Keep, n.Cut, n.Disk.Room = -1, 0, 0, 1048576 }))
	left := nodeWith(got.n, func(n *impl.Node) { n.Disk.Room = 1048576 })
	risen, ok := impl.NodeRise(left)
	way := wayOf(keptNow(risen), keptNow(n), keptNow(free.n))
	if !ok || way < 0 || !sameState(risen.State, wantStateOf(t, risen)) {
		t.Fatalf("%s of %s\nleft %s\nwhich rises as %s", call.name, brief(n), brief(got), brief(risen))
	}
	return way
}

// nodeCame says in words what a call came to.
func nodeCame(call string, n impl.Node, got nodeAnswer) string {
	came := strings.Fields(call)[0]
	if !n.Up {
		return fmt.Sprint(came, " of one that is down, ", got.n.Up)
	}
	if !got.n.Up {
		return came + " goes down"
	}
	came += fmt.Sprint(" of ", n.Core.Role, " to ", got.n.Core.Role)
	if got.n.Core.Base != n.Core.Base {
		came += " with a new Base"
	}
	if len(got.said) > 0 {
		came += fmt.Sprint(" says ", got.said[0].Kind)
	}
	if len(got.said) > 0 && got.said[len(got.said)-1].Kind == 7 {
		came += " and tells"
	}
	return came
}

func TestNodesByChance(t *testing.T) {
	r := rand.New(rand.NewPCG(17, 1))
	came := map[string]int{}
	var ways [4]int
	for range 12000 {
		n := rightNode(r)
		wantNodeOk(t, "by chance", n, true)
		call := someNodeCall(r, n)
		got := wantNodeWords(t, "by chance", call, n)
		came[nodeCame(call.name, n, got)]++
		if n.Up && !got.n.Up && !strings.HasPrefix(call.name, "NodeFall") {
			ways[wantWay(t, n, call, got)]++
		}
		if n.Up && got.ok && strings.HasPrefix(call.name, "NodeCompact") {
			wantPutAway(t, "by chance", n, got)
		}
	}
	for _, x := range []string{
		"NodeRise of one that is down, true", "NodeRise of one that is down, false", "NodeHear of one that is down, false", "NodeElect goes down", "NodeElect of 1 to 2 says 1", "NodeElect of 2 to 2 says 1", "NodeElect of 1 to 3", "NodeElect of 1 to 3 says 7 and tells", "NodeElect of 3 to 3", "NodeBeat of 1 to 1", "NodeBeat of 3 to 3 says 3", "NodeBeat of 3 to 3 says 5",
		"NodeCompact goes down", "NodeCompact of 1 to 1", "NodeCompact of 1 to 1 with a new Base", "NodeCompact of 2 to 2 with a new Base", "NodeCompact of 3 to 3 with a new Base", "NodeFall goes down", "NodeFuel of 1 to 1",
		"NodeHear goes down", "NodeHear of 1 to 1", "NodeHear of 1 to 1 says 2", "NodeHear of 1 to 1 says 4", "NodeHear of 1 to 1 with a new Base says 4", "NodeHear of 2 to 1 with a new Base says 4", "NodeHear of 1 to 1 says 7 and tells", "NodeHear of 2 to 2 says 7 and tells", "NodeHear of 3 to 3 says 7 and tells", "NodeHear of 3 to 3 says 3", "NodeHear of 3 to 3 says 3 and tells", "NodeHear of 2 to 3 says 3", "NodeHear of 3 to 1 says 4",
	} {
		if came[x] < 3 {
			t.Errorf("%s: %d times", x, came[x])
		}
	}
	if slices.Min(ways[:]) < 3 {
		t.Errorf("it rose %v times with each of the four", ways)
	}
}

// Much happens to one node, one thing behind the other.
func TestOneNodeThatHearsMuch(t *testing.T) {
	r := rand.New(rand.NewPCG(17, 2))
	for range 150 {
		n := rightNode(r)
		for range 60 {
			call := someNodeCall(r, n)
			got := wantNodeWords(t, "much", call, n)
			if n.Up && got.n.Up && got.n.Core.Term == n.Core.Term && n.Core.Vote != -1 && n.Core.Vote != got.n.Core.Vote {
				t.Fatalf("%s votes for another one: %s", brief(n), brief(got.n))
			}
			n = got.n
		}
	}
}

// turnNode puts something by chance, often at an edge, in the place of a field.
func turnNode(r *rand.Rand, n *impl.Node) {
	switch r.IntN(14) {
	case 0, 1, 2:
		fields := []nodeField{nodeId, nodePeers, nodeKind, nodeFuel, nodeKeep, nodeCut}
		*pick(r, fields...)(n) = pick(r, -2, -1, 0, 1, 2, 3, 20, 21, 100, 101, 1048576, 1048577, math.MaxInt, math.MinInt)
	case 3:
		n.Up = !n.Up
	case 4, 5:
		turnCore(r, &n.Core)
	case 6:
		turnState(r, &n.State)
	case 7:
		n.Snap.Index += pick(r, -1, 1)
	case 8:
		n.Snap.Data = pick(r, "", "x", imageOf(shortState(r, 1+r.IntN(2))).text())
	case 9:
		n.Disk = leftDisk(r, n.Disk)
	case 10:
		n.Disk.Room = pick(r, -1, 0, slowBytes(n.Disk)-1, slowBytes(n.Disk), 1048577)
	case 11:
		n.State = shortState(r, 1+r.IntN(2))
	case 12:
		n.Disk = keptDisk(slowWalOf(n.Core), n.Snap)
	case 13:
		n.Disk = doneSteps(n.Disk, impl.Step{Kind: impl.StMake, Name: "new"}, impl.Step{Kind: impl.StAdd, Name: "new", Data: "data"})
	}
}

func TestNodeOkAgainstTheWords(t *testing.T) {
	r := rand.New(rand.NewPCG(17, 3))
	ups, downs, not := 0, 0, 0
	for range 12000 {
		n := rightNode(r)
		for range pick(r, 1, 1, 1, 2) {
			turnNode(r, &n)
		}
		right := slowNodeOk(n)
		wantNodeOk(t, "turned", n, right)
		switch {
		case !right:
			not++
		case n.Up:
			ups++
		default:
			downs++
		}
	}
	if ups < 500 || downs < 300 || not < 3000 {
		t.Errorf("%d up, %d down, %d not right", ups, downs, not)
	}
}

// A nodeRun is several nodes that talk to each other and to clients, and all that was ever seen of them.
type nodeRun struct {
	t       *testing.T
	r       *rand.Rand
	nodes   []impl.Node
	net     []impl.Msg
	ever    []impl.Entry
	states  []impl.State
	answers map[string]string
	leaders map[int]int
	votes   map[string]int
	terms   []int
	serials [5]int
	ops     [5]impl.Op
	calls   int
	falls   int
	full    int
}

func newNodeRun(t *testing.T, r *rand.Rand, peers, room, kind int) *nodeRun {
	x := &nodeRun{t: t, r: r, states: []impl.State{{Kind: kind}}, answers: map[string]string{}, leaders: map[int]int{}, votes: map[string]int{}, terms: make([]int, peers)}
	for id := range peers {
		n, ok := impl.NodeNew(id, peers, room, kind)
		if !ok {
			t.Fatalf("no node %d of %d", id, peers)
		}
		x.nodes = append(x.nodes, n)
	}
	for client := 1; client <= 4; client++ {
		x.nextCall(client)
	}
	return x
}

func (x *nodeRun) nextCall(client int) {
	x.serials[client]++
	x.ops[client] = nearOp(x.r, x.nodes[0].Kind)
}

// do has it happen to the node, looks at what that has become, and sends what it says; now and then it is held against the words.
func (x *nodeRun) do(id int, call nodeCall) nodeAnswer {
	x.t.Helper()
	n := x.nodes[id]
	var got nodeAnswer
	if x.r.IntN(10) == 0 {
		got = wantNodeWords(x.t, "a run", call, n)
	} else {
		got = call.do(n)
		wantNodePromise(x.t, "a run: "+call.name, n, got)
	}
	if n.Up && !got.n.Up {
		x.falls++
		if n.Fuel == -1 && !strings.HasPrefix(call.name, "NodeFall") {
			x.full++
		}
	}
	x.nodes[id] = got.n
	x.look(id)
	for _, m := range got.said {
		if m.Kind == impl.MsTold {
			x.told(m)
		} else {
			x.net = append(x.net, m)
		}
	}
	return got
}

// look wants of a node that is up: a Term that never falls, one vote in it, one leader of it, one entry of a number, and the state that what was agreed on comes to.
func (x *nodeRun) look(id int) {
	x.t.Helper()
	n := x.nodes[id]
	if !n.Up {
		return
	}
	c := n.Core
	if c.Term < x.terms[id] {
		x.t.Fatalf("%d was in Term %d: %s", id, x.terms[id], brief(n))
	}
	x.terms[id] = c.Term
	key := fmt.Sprint(id, " in ", c.Term)
	if vote, there := x.votes[key]; there && vote != -1 && vote != c.Vote {
		x.t.Fatalf("%d voted for %d and %d in Term %d", id, vote, c.Vote, c.Term)
	}
	x.votes[key] = c.Vote
	if lead, there := x.leaders[c.Term]; there && lead != id && c.Role == impl.RlLead {
		x.t.Fatalf("%d and %d lead in Term %d", lead, id, c.Term)
	}
	if c.Role == impl.RlLead {
		x.leaders[c.Term] = id
	}
	for number := c.Base + 1; number <= c.Commit; number++ {
		e := c.Log[number-c.Base-1]
		if number == len(x.ever)+1 {
			x.agree(e)
		}
		if number > len(x.ever) || x.ever[number-1] != e {
			x.t.Fatalf("%s has another entry %d than was agreed on: %s", brief(n), number, brief(x.ever))
		}
	}
	if c.Commit > len(x.ever) || !sameState(n.State, x.states[c.Commit]) {
		x.t.Fatalf("%s\nhas not the state that what was agreed on comes to: %s", brief(n), brief(x.states[min(c.Commit, len(x.ever))]))
	}
}

// agree remembers an entry, the state that all come to with it, and what the client is to be told.
func (x *nodeRun) agree(e impl.Entry) {
	x.ever = append(x.ever, e)
	s := x.states[len(x.states)-1]
	if call, ok := impl.ReadCmd(e.Data); ok {
		next, a, did := impl.Serve(s, call.Client, call.Serial, call.Op, len(x.ever))
		s = next
		if did {
			x.answers[fmt.Sprint(call.Client, " ", call.Serial)] = impl.ShowAnswer(a)
		}
	}
	x.states = append(x.states, s)
}

// told wants each call to be told one thing, what it was agreed to come to; the client goes on then.
func (x *nodeRun) told(m impl.Msg) {
	x.t.Helper()
	client := m.To - 10
	if want, there := x.answers[fmt.Sprint(client, " ", m.Index)]; !there || m.Data != want || m.Index > x.serials[client] {
		x.t.Fatalf("%s is told, agreed was %q", brief(m), want)
	}
	if m.Index == x.serials[client] {
		x.calls++
		x.nextCall(client)
	}
}

func (x *nodeRun) ask(client, id int) {
	x.net = append(x.net, callMsg(10+client, id, x.serials[client], opText(x.ops[client])))
}

func (x *nodeRun) deliver(at int, stays bool) {
	m := x.net[at]
	if !stays {
		x.net = slices.Delete(x.net, at, at+1)
	}
	x.do(m.To, nodeHearCall(m))
}

// step is one thing by chance.
func (x *nodeRun) step() {
	r := x.r
	id := r.IntN(len(x.nodes))
	n := x.nodes[id]
	at := 0
	if len(x.net) > 0 {
		at = r.IntN(len(x.net))
	}
	switch what := r.IntN(44); {
	case what == 0:
		x.do(id, nodeElectCall())
	case what < 3:
		x.do(id, nodeBeatCall())
	case what < 6:
		x.ask(1+r.IntN(4), id)
	case what < 8:
		if lead := slices.IndexFunc(x.nodes, func(n impl.Node) bool { return n.Up && n.Core.Role == impl.RlLead }); lead >= 0 {
			x.ask(1+r.IntN(4), lead)
		}
	case what == 8:
		x.do(id, nodeCompactCall())
	case what == 9:
		x.do(id, fuelCall(r.IntN(14), r.IntN(5), pick(r, 0, r.IntN(60), 1048576)))
	case what == 10:
		x.do(id, fallCall(r.IntN(5), pick(r, 0, r.IntN(60), 1048576)))
	case what < 14 || !n.Up && what < 18:
		x.do(id, riseCall())
	case len(x.net) == 0:
	case what < 16:
		x.net = slices.Delete(x.net, at, at+1)
	case what < 18:
		x.deliver(at, true)
	case what < 30:
		x.deliver(at, false)
	default:
		x.deliver(0, false)
	}
	if len(x.net) > 80 {
		x.net = x.net[40:]
	}
}

func (x *nodeRun) drain() {
	x.t.Helper()
	for many := 0; len(x.net) > 0; many++ {
		if many > 3000 {
			x.t.Fatalf("they talk without end: %s", brief(x.net))
		}
		x.deliver(0, false)
	}
}

// calm is a round in which nothing is lost and nobody falls.
func (x *nodeRun) calm() {
	x.t.Helper()
	for id, n := range x.nodes {
		if !n.Up {
			x.do(id, riseCall())
		} else if n.Fuel != -1 {
			x.do(id, fallCall(0, 0))
			x.do(id, riseCall())
		}
	}
	x.drain()
	top, lead, best := 0, -1, 0
	for id, n := range x.nodes {
		if !n.Up {
			x.t.Fatalf("%d does not rise: %s", id, brief(n))
		}
		top = max(top, n.Core.Term)
		b := x.nodes[best].Core
		one, other := slowTermAt(n.Core, slowLast(n.Core)), slowTermAt(b, slowLast(b))
		if one > other || one == other && slowLast(n.Core) > slowLast(b) {
			best = id
		}
	}
	for id, n := range x.nodes {
		if n.Core.Role == impl.RlLead && n.Core.Term == top {
			lead = id
		}
	}
	if lead < 0 {
		lead = best
		x.do(lead, nodeElectCall())
		x.drain()
	}
	for client := 1; client <= 4; client++ {
		x.ask(client, lead)
	}
	x.drain()
	x.do(lead, nodeBeatCall())
	x.drain()
}

// wantSettled wants one that leads, and all of one log and one state.
func (x *nodeRun) wantSettled() {
	x.t.Helper()
	leads := 0
	for _, n := range x.nodes {
		if n.Core.Role == impl.RlLead {
			leads++
		}
		if n.Core.Commit != slowLast(n.Core) || n.Core.Commit != len(x.ever) || !sameState(n.State, x.nodes[0].State) || n.Core.Term != x.nodes[0].Core.Term {
			x.t.Fatalf("not settled: %s", brief(x.nodes))
		}
	}
	if leads != 1 {
		x.t.Fatalf("%d lead", leads)
	}
}

// Nodes that talk to each other, with messages that are lost, late and told twice, with power that falls at any step; at last nothing is lost any more, and all come to an end.
func TestRunsOfNodes(t *testing.T) {
	r := rand.New(rand.NewPCG(17, 4))
	agreed, calls, falls, snaps := 0, 0, 0, 0
	for run := range 80 {
		x := newNodeRun(t, r, 1+run%5, impl.MaxRoom, 1+run/5%2)
		for range 350 {
			x.step()
		}
		before := x.calls
		for range 7 {
			x.calm()
		}
		x.wantSettled()
		if x.calls < before+4 {
			t.Fatalf("calls are not told: %d of %v", x.calls, x.serials)
		}
		agreed, calls, falls = agreed+len(x.ever), calls+x.calls, falls+x.falls
		for _, n := range x.nodes {
			snaps += min(n.Core.Base, 1)
		}
	}
	if agreed < 1500 || calls < 1200 || falls < 500 || snaps < 60 {
		t.Errorf("%d entries were agreed on, %d calls told, %d times power fell, %d put a log away", agreed, calls, falls, snaps)
	}
}

// Runs on disks that come to be full: they need not come to anything, but nothing that was agreed on is lost.
func TestRunsOfNodesOnSmallDisks(t *testing.T) {
	r := rand.New(rand.NewPCG(17, 5))
	agreed, full, stuck := 0, 0, 0
	for run := range 200 {
		x := newNodeRun(t, r, 1+run%5, pick(r, 24, 60, 200, 500, 900), 1+run/5%2)
		for range 300 {
			x.step()
		}
		agreed, full = agreed+len(x.ever), full+x.full
		for id, n := range x.nodes {
			if !n.Up && !x.do(id, riseCall()).ok {
				stuck++
			}
		}
	}
	if agreed < 500 || full < 200 || stuck < 5 {
		t.Errorf("%d entries were agreed on, %d times a disk was full, %d do not rise", agreed, full, stuck)
	}
}

// Behind whatever it said yes to, each fall leaves its Term, Vote and log: each Keep, and each Cut near an end of a file.
func TestNothingIsSaidThatIsNotSafe(t *testing.T) {
	r := rand.New(rand.NewPCG(17, 6))
	yes := 0
	for range 400 {
		n := rightNode(r)
		n.Fuel, n.Keep, n.Cut, n.Disk.Room = -1, 0, 0, 1048576
		if !n.Up {
			continue
		}
		for range 6 {
			m := nearNodeMsg(r, n)
			x, said := impl.NodeHear(n, m)
			for _, s := range said {
				if s.Kind != impl.MsVoted && s.Kind != impl.MsApped || !s.Yes {
					continue
				}
				yes++
				for keep := range 4 {
					for _, cut := range []int{0, 1, 12, 40, math.MaxInt} {
						risen := wantRises(t, "it said yes", x, keep, cut)
						if s.Kind == impl.MsVoted && risen.Core.Vote != s.To || s.Kind == impl.MsApped && slowLast(risen.Core) < s.Index || risen.Core.Term != s.Term {
							t.Fatalf("%s said %s\nand rises as %s", brief(x), brief(s), brief(risen))
						}
					}
				}
			}
			n = x
		}
	}
	if yes < 200 {
		t.Errorf("it said yes %d times", yes)
	}
}

// spareNode is the node with room behind each list, what stands there, and texts of its own.
func spareNode(n impl.Node) impl.Node {
	n.Core, n.State, n.Disk = spareCore(n.Core), spareState(n.State), ownTexts(withSpare(n.Disk))
	n.Snap.Data = strings.Clone(n.Snap.Data)
	return n
}

// ownTexts gives the disk, whose lists it writes into, texts of its own.
func ownTexts(d impl.Disk) impl.Disk {
	for i := range d.Inodes {
		d.Inodes[i].Data = strings.Clone(d.Inodes[i].Data)
	}
	for i := range d.Dir {
		d.Dir[i].Name = strings.Clone(d.Dir[i].Name)
	}
	for i := range d.Moves {
		d.Moves[i].Name, d.Moves[i].To = strings.Clone(d.Moves[i].Name), strings.Clone(d.Moves[i].To)
	}
	return d
}

// sameNodeWithRoom asks whether the node, and what stands behind its lists, are as spareNode made them.
func sameNodeWithRoom(a, b impl.Node) bool {
	all := func(n impl.Node) impl.Node {
		d := n.Disk
		d.Inodes, d.Dir, d.Moves = d.Inodes[:len(d.Inodes)+2], d.Dir[:len(d.Dir)+2], d.Moves[:len(d.Moves)+2]
		n.Disk = d
		return n
	}
	return sameNode(all(a), all(b)) && sameCoreWithRoom(a.Core, b.Core) && sameStateWithRoom(a.State, b.State)
}

func textsInNode(n impl.Node) []string {
	l := slices.Concat(textsInMsg(impl.Msg{Entries: n.Core.Log}), textsInState(n.State), []string{n.Snap.Data})
	for _, f := range n.Disk.Inodes {
		l = append(l, f.Data)
	}
	for _, link := range n.Disk.Dir {
		l = append(l, link.Name)
	}
	for _, m := range n.Disk.Moves {
		l = append(l, m.Name, m.To)
	}
	return l
}

func textsInNodeAnswer(a nodeAnswer) []string {
	l := textsInNode(a.n)
	for _, m := range a.said {
		l = append(l, textsInMsg(m)...)
	}
	return l
}

// nodeSpoilers each write over one list of the answer, or over one part of it whose lists are held apart elsewhere.
func nodeSpoilers(a nodeAnswer) []func() {
	l := append(spoilers(coreAnswer{c: a.n.Core, said: a.said}), func() { spoilState(a.n.State) })
	d := a.n.Disk
	return append(l, func() { overwrite(impl.Disk{Inodes: d.Inodes}) }, func() { overwrite(impl.Disk{Dir: d.Dir}) }, func() { overwrite(impl.Disk{Moves: d.Moves}) })
}

// nodeLists are the same lists, each as a text.
func nodeLists(a nodeAnswer) []string {
	l := append(listsOf(coreAnswer{c: a.n.Core, said: a.said}), fmt.Sprint(a.n.State))
	return append(l, fmt.Sprint(a.n.Disk.Inodes), fmt.Sprint(a.n.Disk.Dir), fmt.Sprint(a.n.Disk.Moves))
}

// wantNodeApart wants no list of the answer to share memory with another one of it, and no text with another text.
func wantNodeApart(t *testing.T, name string, do func() nodeAnswer) {
	t.Helper()
	for i := range nodeSpoilers(do()) {
		a := do()
		ahead := nodeLists(a)
		nodeSpoilers(a)[i]()
		for j, text := range nodeLists(a) {
			if j != i && text != ahead[j] {
				t.Fatalf("%s: list %d of the answer shares memory with list %d", name, j, i)
			}
		}
	}
	texts := textsInNodeAnswer(do())
	for i, text := range texts {
		wantNewTexts(t, name, []string{text}, texts[:i])
	}
}

// memoryNodes are of each Role, up and down, with calls that are agreed on by what they hear, on disks that are clean and not, and some that are not right.
func memoryNodes() []impl.Node {
	lead := nodeWith(leadNode(), func(n *impl.Node) { n.Core.Next, n.Core.Match = []int{7, 12, 1}, []int{2, 11, 0} })
	dirty := withDisk(followNode(), keptDisk(slowWalOf(followCore()), followNode().Snap, "log.new", "snap.new"))
	l := []impl.Node{followNode(), seekNode(), leadNode(), lead, looseNode(), callsLead(3, 2), callsNode(coreWith(newCore(0, 1), func(c *impl.Core) { c.Term = 6 }), 1), upNode(coreWith(followCore(), func(c *impl.Core) { c.Commit = 10 }), keptShard(), richShard()), upNode(coreWith(leadCore(), func(c *impl.Core) { c.Commit = 11 }), keptMeta(), richMeta())}
	return append(l, downNode(followNode()), dirty, withDisk(followNode(), impl.Disk{Room: 30, Next: 1}), withDisk(followNode(), impl.Disk{Room: 3, Next: 1}), withDisk(followNode(), richDisk()), impl.Node{}, nodeWith(followNode(), func(n *impl.Node) { n.Id = 2 }), nodeWith(followNode(), func(n *impl.Node) { n.Fuel, n.Keep, n.Cut = 1, 2, 3 }))
}

// memoryNodeCalls are calls that hand a node back, change it, and say something, and the messages that they bear.
func memoryNodeCalls(n impl.Node) ([]nodeCall, []impl.Msg) {
	calls := []nodeCall{fuelCall(3, 2, 1), fuelCall(-1, 0, 0), fallCall(1, 2), riseCall(), nodeElectCall(), nodeBeatCall(), nodeCompactCall()}
	msgs := []impl.Msg{callMsg(11, n.Id, 1, opText(writeOp("cpu", pointsAt(500, 1)))), callMsg(12, n.Id, 7, flushText), callMsg(12, n.Id, 8, opText(readOp("cpu", 1, 2000))), callMsg(14, n.Id, 9, flushText), {}}
	from, last := (n.Id+1)%3, slowLast(n.Core)
	for _, term := range []int{5, 6, 7} {
		msgs = append(msgs, voteMsg(from, n.Id, term, 99, term), votedMsg(from, n.Id, term, true), appedMsg(from, n.Id, term, last, true), appedMsg(from, n.Id, term, n.Core.Base, false), appMsg(from, n.Id, term, last, max(0, slowTermAt(n.Core, last)), last, sameEntries(3, term, "new data")...),
			appMsg(from, n.Id, term, n.Core.Commit, max(0, slowTermAt(n.Core, n.Core.Commit)), last, sameEntries(4, term, "other data")...), snapMsg(from, n.Id, term, last+3, term, imageOf(nowShard()).text()), snapMsg(from, n.Id, term, max(1, last-1), 5, imageOf(richMeta()).text()), snapMsg(from, n.Id, term, 99, 5, "none at all"))
	}
	for i, m := range msgs {
		msgs[i] = spareMsg(m)
		calls = append(calls, nodeHearCall(msgs[i]))
	}
	return calls, msgs
}

func TestNodeAnswersNewMemory(t *testing.T) {
	for _, x := range memoryNodes() {
		calls, msgs := memoryNodeCalls(x)
		var texts []string
		var kept []impl.Msg
		for _, m := range msgs {
			texts = append(texts, textsInMsg(m)...)
			kept = append(kept, spareMsg(m))
		}
		for _, call := range calls {
			n := spareNode(x)
			impl.NodeOk(n)
			want := nodeAsSaid(call, x)
			first, second := call.do(n), call.do(n)
			wantNewTexts(t, call.name, textsInNodeAnswer(first), slices.Concat(textsInNodeAnswer(second), textsInNode(n), texts))
			for _, spoil := range nodeSpoilers(second) {
				spoil()
			}
			if !sameNodeWithRoom(n, spareNode(x)) {
				t.Fatalf("%s wrote into %s, or its answer is part of it: %s", call.name, brief(x), brief(n))
			}
			for i, m := range msgs {
				if with := m.Entries[:len(m.Entries)+2]; !sameMsg(m, kept[i]) || !slices.Equal(with[len(m.Entries):], []impl.Entry{{Term: 77}, {Term: 78}}) {
					t.Fatalf("%s wrote into the message, or its answer is part of it", call.name)
				}
			}
			for _, spoil := range nodeSpoilers(nodeAnswer{n: n}) {
				spoil()
			}
			if !sameNodeAnswer(first, want) {
				t.Fatalf("%s of %s hangs on its argument, or on another answer: %s", call.name, brief(x), brief(first))
			}
			wantNodeApart(t, call.name, func() nodeAnswer { return call.do(spareNode(x)) })
		}
		for i, m := range msgs {
			answer := nodeHearCall(m).do(x)
			spoilEntries(m.Entries)
			if want := nodeAsSaid(nodeHearCall(kept[i]), x); !sameNodeAnswer(answer, want) {
				t.Fatalf("NodeHear hangs on its message: %s", brief(answer))
			}
		}
	}
	one, _ := impl.NodeNew(1, 3, 100, impl.KdShard)
	other, _ := impl.NodeNew(1, 3, 100, impl.KdShard)
	wantNewTexts(t, "NodeNew", textsInNode(one), textsInNode(other))
	for _, spoil := range nodeSpoilers(nodeAnswer{n: other}) {
		spoil()
	}
	if again, _ := impl.NodeNew(1, 3, 100, impl.KdShard); !sameNode(one, again) {
		t.Errorf("NodeNew hangs on another answer: %s", brief(one))
	}
}

// Nothing is kept from one call to another: what is asked again is answered again.
func TestNodesAreAskedAgain(t *testing.T) {
	r := rand.New(rand.NewPCG(17, 7))
	for range 300 {
		n := rightNode(r)
		call := someNodeCall(r, n)
		first := call.do(n)
		for range 3 {
			other := rightNode(r)
			someNodeCall(r, other).do(other)
		}
		if again := call.do(n); !sameNodeAnswer(first, again) {
			t.Fatalf("%s of %s\n= %s\nand then %s", call.name, brief(n), brief(first), brief(again))
		}
	}
}

func TestNodesAnswerAtEveryArgument(t *testing.T) {
	long := strings.Repeat("a", 100000)
	for _, n := range append(memoryNodes(), shardNode(fullCores()[2]), shardNode(fullCores()[14])) {
		for _, i := range []int{math.MinInt, -1, 0, math.MaxInt} {
			wantNodeWords(t, "anywhere", fuelCall(i, i, i), n)
			wantNodeWords(t, "anywhere", fallCall(i, i), n)
			for kind := -1; kind <= 8; kind++ {
				wantNodeWords(t, "far too much", nodeHearCall(impl.Msg{Kind: kind, From: i, To: n.Id, Term: i, Index: i, IndexTerm: i, Commit: i, Yes: true, Entries: sameEntries(3, i, "x"), Data: "x"}), n)
				wantNodeWords(t, "far too much", nodeHearCall(impl.Msg{Kind: kind, From: (n.Id + 1) % 5, To: n.Id, Term: 6, Index: i, IndexTerm: i, Commit: i}), n)
				wantNodeWords(t, "far too long", nodeHearCall(impl.Msg{Kind: kind, From: (n.Id + 1) % 5, To: n.Id, Term: 6, Index: 1, IndexTerm: 1, Data: long}), n)
			}
			impl.NodeNew(i, i, i, i)
		}
	}
	wantNodeOk(t, "far too many", nodeWith(followNode(), func(n *impl.Node) { n.Core.Log = make([]impl.Entry, 100000) }), false)
	wantNodeOk(t, "far too many", nodeWith(followNode(), func(n *impl.Node) { n.Disk.Inodes = make([]impl.Inode, 100000) }), false)
	wantNodeOk(t, "far too long", nodeWith(followNode(), func(n *impl.Node) { n.Snap.Data = long }), false)
	wantNodeOk(t, "far too long", nodeWith(downNode(followNode()), func(n *impl.Node) { n.Snap.Data = long }), false)
}
