package tests

import (
	"fmt"
	"math"
	"math/rand/v2"
	"slices"
	"strings"
	"testing"

	"loop.example/g00360/impl"
)

// Promise 16: whatever a right core hears or does, it stays right; its Term and Commit never go back, entries up to Commit stay, and within a Term it votes for one server alone; what it says is MsgOk and bears its Term.

// The slow functions do the document's words number by number, to be held against the program.

func slowLast(c impl.Core) int {
	return c.Base + len(c.Log)
}

// slowTermAt is -1 where the core has no such number.
func slowTermAt(c impl.Core, number int) int {
	if number == c.Base {
		return c.BaseTerm
	}
	for i, e := range c.Log {
		if c.Base+1+i == number {
			return e.Term
		}
	}
	return -1
}

func slowWalOf(c impl.Core) impl.Wal {
	return impl.Wal{Term: c.Term, Vote: c.Vote, Base: c.Base, BaseTerm: c.BaseTerm, Entries: c.Log}
}

func slowSeekOk(c impl.Core) bool {
	own := 0
	for i, n := range c.Yes {
		if !within(n, 0, c.Peers-1) || i > 0 && n <= c.Yes[i-1] {
			return false
		}
		if n == c.Id {
			own++
		}
	}
	return own == 1 && len(c.Yes) <= c.Peers/2 && c.Term >= 1 && c.Vote == c.Id && c.Lead == -1 && len(c.Next) == 0 && len(c.Match) == 0
}

func slowLeadOk(c impl.Core) bool {
	if len(c.Yes) != 0 || len(c.Next) != c.Peers || len(c.Match) != c.Peers {
		return false
	}
	for i := range c.Peers {
		if c.Match[i] < 0 || c.Next[i] <= c.Match[i] || c.Next[i] > slowLast(c)+1 {
			return false
		}
	}
	return c.Match[c.Id] == slowLast(c) && c.Term >= 1 && c.Vote == c.Id && c.Lead == c.Id
}

func slowCoreOk(c impl.Core) bool {
	if !within(c.Peers, 1, 5) || !within(c.Id, 0, c.Peers-1) || !slowWalOk(slowWalOf(c)) || c.Vote >= c.Peers || !within(c.Commit, c.Base, slowLast(c)) {
		return false
	}
	switch c.Role {
	case 1:
		return (c.Lead == -1 || within(c.Lead, 0, c.Peers-1) && c.Lead != c.Id) && len(c.Yes) == 0 && len(c.Next) == 0 && len(c.Match) == 0
	case 2:
		return slowSeekOk(c)
	case 3:
		return slowLeadOk(c)
	}
	return false
}

func slowSend(c impl.Core, to int) impl.Msg {
	next := c.Next[to]
	if next <= c.Base {
		return snapMsg(c.Id, to, c.Term, c.Base, c.BaseTerm, "")
	}
	m := appMsg(c.Id, to, c.Term, next-1, slowTermAt(c, next-1), c.Commit)
	for n := next; n <= slowLast(c) && n < next+4; n++ {
		m.Entries = append(m.Entries, c.Log[n-c.Base-1])
	}
	return m
}

// slowOthers is what is said to each other server.
func slowOthers(c impl.Core, say func(to int) impl.Msg) []impl.Msg {
	var l []impl.Msg
	for to := range c.Peers {
		if to != c.Id {
			l = append(l, say(to))
		}
	}
	return l
}

func slowSendAll(c impl.Core) []impl.Msg {
	return slowOthers(c, func(to int) impl.Msg { return slowSend(c, to) })
}

func slowCounted(c impl.Core) impl.Core {
	greatest := c.Commit
	for n := c.Commit + 1; n <= slowLast(c); n++ {
		many := 0
		for _, match := range c.Match {
			if n <= match {
				many++
			}
		}
		if many > c.Peers/2 && slowTermAt(c, n) == c.Term {
			greatest = n
		}
	}
	c.Commit = greatest
	return c
}

// slowAdded is the core with an Entry behind its Log, if there is one to come, and with what it knows of itself then.
func slowAdded(c impl.Core, entries ...impl.Entry) impl.Core {
	c.Log = append(c.Log, entries...)
	c.Match[c.Id] = slowLast(c)
	c.Next[c.Id] = slowLast(c) + 1
	return slowCounted(c)
}

func slowFull(c impl.Core) bool {
	return len(c.Log) >= 60 || slowLast(c) >= 100000
}

func slowLeads(c impl.Core) (impl.Core, []impl.Msg) {
	c.Role, c.Lead, c.Yes = 3, c.Id, nil
	for range c.Peers {
		c.Next = append(c.Next, slowLast(c)+1)
		c.Match = append(c.Match, 0)
	}
	if slowFull(c) {
		c = slowAdded(c)
	} else {
		c = slowAdded(c, impl.Entry{Term: c.Term})
	}
	return c, slowSendAll(c)
}

func slowStepDown(c impl.Core, term int) impl.Core {
	if c.Term != term {
		c.Vote = -1
	}
	return impl.Core{Id: c.Id, Peers: c.Peers, Term: term, Vote: c.Vote, Role: 1, Lead: -1, Base: c.Base, BaseTerm: c.BaseTerm, Log: c.Log, Commit: c.Commit}
}

func slowElect(c impl.Core) (impl.Core, []impl.Msg) {
	if c.Role == 3 || c.Term == 100000 {
		return c, nil
	}
	c.Term++
	c.Vote, c.Role, c.Lead, c.Yes = c.Id, 2, -1, []int{c.Id}
	if c.Peers == 1 {
		return slowLeads(c)
	}
	return c, slowOthers(c, func(to int) impl.Msg { return voteMsg(c.Id, to, c.Term, slowLast(c), slowTermAt(c, slowLast(c))) })
}

func slowPropose(c impl.Core, data string) (impl.Core, []impl.Msg, int) {
	if c.Role != 3 || len(data) > 900 || slowFull(c) {
		return c, nil, 0
	}
	c = slowAdded(c, impl.Entry{Term: c.Term, Data: data})
	return c, slowSendAll(c), slowLast(c)
}

func slowCompact(c impl.Core, index int) (impl.Core, bool) {
	if index <= c.Base || index > c.Commit {
		return c, false
	}
	for c.Base < index {
		c.Base, c.BaseTerm, c.Log = c.Base+1, c.Log[0].Term, c.Log[1:]
	}
	return c, true
}

func slowHear(c impl.Core, m impl.Msg) (impl.Core, []impl.Msg) {
	if !slowMsgOk(m) || m.To != c.Id || m.From >= c.Peers || m.Kind == 6 || m.Kind == 7 {
		return c, nil
	}
	if m.Term < c.Term {
		switch m.Kind {
		case 1:
			return c, []impl.Msg{votedMsg(c.Id, m.From, c.Term, false)}
		case 3, 5:
			return c, []impl.Msg{appedMsg(c.Id, m.From, c.Term, 0, false)}
		}
		return c, nil
	}
	if m.Term > c.Term {
		c = slowStepDown(c, m.Term)
	}
	switch m.Kind {
	case 1:
		return slowHearVote(c, m)
	case 2:
		return slowHearVoted(c, m)
	case 3:
		return slowHearApp(c, m)
	case 4:
		return slowHearApped(c, m)
	}
	return slowHearSnap(c, m)
}

func slowHearVote(c impl.Core, m impl.Msg) (impl.Core, []impl.Msg) {
	term := slowTermAt(c, slowLast(c))
	yes := c.Role == 1 && (c.Vote == -1 || c.Vote == m.From) && (m.IndexTerm > term || m.IndexTerm == term && m.Index >= slowLast(c))
	if yes {
		c.Vote = m.From
	}
	return c, []impl.Msg{votedMsg(c.Id, m.From, c.Term, yes)}
}

func slowHearVoted(c impl.Core, m impl.Msg) (impl.Core, []impl.Msg) {
	if c.Role != 2 || !m.Yes {
		return c, nil
	}
	var yes []int
	for n := range c.Peers {
		if n == m.From || slices.Contains(c.Yes, n) {
			yes = append(yes, n)
		}
	}
	c.Yes = yes
	if len(yes) > c.Peers/2 {
		return slowLeads(c)
	}
	return c, nil
}

func slowHearApp(c impl.Core, m impl.Msg) (impl.Core, []impl.Msg) {
	if c.Role == 3 {
		return c, nil
	}
	c = slowStepDown(c, c.Term)
	c.Lead = m.From
	index, entries := m.Index, m.Entries
	for index < c.Base {
		index++
		if len(entries) > 0 {
			entries = entries[1:]
		}
	}
	if index == c.Base && len(entries) > 0 && entries[0].Term < c.BaseTerm {
		return c, nil
	}
	if index > slowLast(c) {
		return c, []impl.Msg{appedMsg(c.Id, m.From, c.Term, slowLast(c), false)}
	}
	if index > c.Base && slowTermAt(c, index) != m.IndexTerm {
		first := index
		for first-1 > c.Base && slowTermAt(c, first-1) == slowTermAt(c, index) {
			first--
		}
		return c, []impl.Msg{appedMsg(c.Id, m.From, c.Term, first-1, false)}
	}
	number := index
	for i, e := range entries {
		if slowTermAt(c, number+1) == e.Term {
			number++
			continue
		}
		if number+1 <= c.Commit {
			return c, nil
		}
		c.Log = slices.Clone(c.Log[:number-c.Base])
		for _, x := range entries[i:] {
			if len(c.Log) < 60 {
				c.Log = append(c.Log, x)
				number++
			}
		}
		break
	}
	c.Commit = max(c.Commit, min(m.Commit, number))
	return c, []impl.Msg{appedMsg(c.Id, m.From, c.Term, number, true)}
}

func slowHearApped(c impl.Core, m impl.Msg) (impl.Core, []impl.Msg) {
	if c.Role != 3 {
		return c, nil
	}
	at, was := m.From, c.Next[m.From]
	if m.Yes {
		index := min(m.Index, slowLast(c))
		if index <= c.Match[at] {
			return c, nil
		}
		c.Match[at], c.Next[at] = index, index+1
		c = slowCounted(c)
		if c.Next[at] <= slowLast(c) {
			return c, []impl.Msg{slowSend(c, at)}
		}
		return c, nil
	}
	next := was - 1
	if m.Index+1 < next {
		next = m.Index + 1
	}
	if next <= c.Match[at] {
		next = c.Match[at] + 1
	}
	if next >= was {
		return c, nil
	}
	c.Next[at] = next
	return c, []impl.Msg{slowSend(c, at)}
}

func slowHearSnap(c impl.Core, m impl.Msg) (impl.Core, []impl.Msg) {
	if c.Role == 3 {
		return c, nil
	}
	c = slowStepDown(c, c.Term)
	c.Lead = m.From
	if m.Index <= c.Commit {
		return c, []impl.Msg{appedMsg(c.Id, m.From, c.Term, c.Commit, true)}
	}
	var left []impl.Entry
	if slowTermAt(c, m.Index) == m.IndexTerm {
		left = c.Log[m.Index-c.Base:]
	}
	c.Log, c.Base, c.Commit, c.BaseTerm = left, m.Index, m.Index, m.IndexTerm
	return c, []impl.Msg{appedMsg(c.Id, m.From, c.Term, m.Index, true)}
}

func copyCore(c impl.Core) impl.Core {
	c.Log, c.Yes, c.Next, c.Match = slices.Clone(c.Log), slices.Clone(c.Yes), slices.Clone(c.Next), slices.Clone(c.Match)
	return c
}

func sameCore(a, b impl.Core) bool {
	return a.Id == b.Id && a.Peers == b.Peers && a.Role == b.Role && a.Lead == b.Lead && a.Commit == b.Commit && sameWal(slowWalOf(a), slowWalOf(b)) && slices.Equal(a.Yes, b.Yes) && slices.Equal(a.Next, b.Next) && slices.Equal(a.Match, b.Match)
}

// A coreAnswer is all that a call on a core may answer; what a call does not answer is zero.
type coreAnswer struct {
	c      impl.Core
	said   []impl.Msg
	number int
	done   bool
}

func sameCoreAnswer(a, b coreAnswer) bool {
	return sameCore(a.c, b.c) && slices.EqualFunc(a.said, b.said, sameMsg) && a.number == b.number && a.done == b.done
}

// A coreCall is a call on a core, as the program does it and as the words say; the words are asked of a right core only, and may write into it.
type coreCall struct {
	name string
	do   func(c impl.Core) coreAnswer
	slow func(c impl.Core) coreAnswer
}

func talking(name string, do, slow func(c impl.Core) (impl.Core, []impl.Msg)) coreCall {
	answer := func(f func(c impl.Core) (impl.Core, []impl.Msg)) func(c impl.Core) coreAnswer {
		return func(c impl.Core) coreAnswer {
			x, said := f(c)
			return coreAnswer{c: x, said: said}
		}
	}
	return coreCall{name, answer(do), answer(slow)}
}

func electCall() coreCall {
	return talking("Elect", impl.Elect, slowElect)
}

func beatCall() coreCall {
	return talking("Beat", impl.Beat, func(c impl.Core) (impl.Core, []impl.Msg) {
		if c.Role != 3 {
			return c, nil
		}
		return c, slowSendAll(c)
	})
}

func hearCall(m impl.Msg) coreCall {
	return talking("Hear of "+brief(m), func(c impl.Core) (impl.Core, []impl.Msg) { return impl.Hear(c, m) }, func(c impl.Core) (impl.Core, []impl.Msg) { return slowHear(c, m) })
}

func proposeCall(data string) coreCall {
	answer := func(f func(c impl.Core, data string) (impl.Core, []impl.Msg, int)) func(c impl.Core) coreAnswer {
		return func(c impl.Core) coreAnswer {
			x, said, number := f(c, data)
			return coreAnswer{c: x, said: said, number: number}
		}
	}
	return coreCall{"Propose of " + brief(data), answer(impl.Propose), answer(slowPropose)}
}

func compactCall(index int) coreCall {
	answer := func(f func(c impl.Core, index int) (impl.Core, bool)) func(c impl.Core) coreAnswer {
		return func(c impl.Core) coreAnswer {
			x, done := f(c, index)
			return coreAnswer{c: x, done: done}
		}
	}
	return coreCall{fmt.Sprint("Compact at ", index), answer(impl.Compact), answer(slowCompact)}
}

// asSaid is what the words answer; the zero answer of a core that is not right.
func asSaid(call coreCall, c impl.Core) coreAnswer {
	if !slowCoreOk(c) {
		return coreAnswer{}
	}
	return call.slow(copyCore(c))
}

// wantPromise wants of a right core behind a call that it is right, that what it promised stays, and that all it says is right and bears its Term.
func wantPromise(t *testing.T, name string, c impl.Core, got coreAnswer) {
	t.Helper()
	x := got.c
	if !impl.CoreOk(x) || !slowCoreOk(x) || x.Id != c.Id || x.Peers != c.Peers {
		t.Fatalf("%s: %s\nbecame %s, that is not right", name, brief(c), brief(x))
	}
	if x.Term < c.Term || x.Commit < c.Commit {
		t.Fatalf("%s: %s\nwent back to %s", name, brief(c), brief(x))
	}
	if x.Term == c.Term && c.Vote != -1 && x.Vote != c.Vote {
		t.Fatalf("%s: %s\nvotes for another one: %s", name, brief(c), brief(x))
	}
	for n := max(c.Base, x.Base); n <= c.Commit; n++ {
		if slowTermAt(x, n) != slowTermAt(c, n) || n > max(c.Base, x.Base) && x.Log[n-x.Base-1] != c.Log[n-c.Base-1] {
			t.Fatalf("%s: %s\nhas another entry %d: %s", name, brief(c), n, brief(x))
		}
	}
	for _, m := range got.said {
		if !impl.MsgOk(m) || !slowMsgOk(m) || m.From != c.Id || m.To >= c.Peers || m.Term != x.Term {
			t.Fatalf("%s: %s\nsays %s", name, brief(c), brief(m))
		}
		if m.Kind == impl.MsVoted && m.Yes && x.Vote != m.To || m.Kind == impl.MsVote && x.Vote != x.Id {
			t.Fatalf("%s: %s\nsays %s, with the vote of %s", name, brief(c), brief(m), brief(x))
		}
	}
}

// wantCore wants the call to answer this, as the words do, to write into nothing, and to keep the promise.
func wantCore(t *testing.T, name string, call coreCall, c impl.Core, want coreAnswer) coreAnswer {
	t.Helper()
	if said := asSaid(call, c); !sameCoreAnswer(said, want) {
		t.Fatalf("%s: the words say that %s of %s\nanswers %s\nwant %s", name, call.name, brief(c), brief(said), brief(want))
	}
	return wantCoreWords(t, name, call, c)
}

// wantCoreWords wants the call to answer as the words do, to write into nothing, and to keep the promise.
func wantCoreWords(t *testing.T, name string, call coreCall, c impl.Core) coreAnswer {
	t.Helper()
	ahead, want := copyCore(c), asSaid(call, c)
	got := call.do(c)
	if !sameCoreAnswer(got, want) {
		t.Fatalf("%s: %s of %s\n= %s\nwant %s", name, call.name, brief(c), brief(got), brief(want))
	}
	if !sameCore(c, ahead) {
		t.Fatalf("%s: %s of %s made it %s", name, call.name, brief(ahead), brief(c))
	}
	if slowCoreOk(c) {
		wantPromise(t, name+": "+call.name, c, got)
	}
	return got
}

// wantAsItIs wants the call to hand the core back, and nothing with it.
func wantAsItIs(t *testing.T, name string, call coreCall, c impl.Core) {
	t.Helper()
	wantCore(t, name, call, c, coreAnswer{c: c})
}

// coreWith is the core with a change.
func coreWith(c impl.Core, change func(c *impl.Core)) impl.Core {
	c = copyCore(c)
	change(&c)
	return c
}

// The three cores have the numbers 8, 9, 10 and 11 of the terms 3, 3, 5 and 6 behind Base 7 of term 3.

func followCore() impl.Core {
	return impl.Core{Id: 1, Peers: 3, Term: 6, Vote: -1, Role: impl.RlFollow, Lead: -1, Base: 7, BaseTerm: 3, Log: richWal().Entries, Commit: 8}
}

func seekCore() impl.Core {
	return impl.Core{Id: 1, Peers: 5, Term: 6, Vote: 1, Role: impl.RlSeek, Lead: -1, Base: 7, BaseTerm: 3, Log: richWal().Entries, Commit: 8, Yes: []int{1, 3}}
}

func leadCore() impl.Core {
	return impl.Core{Id: 1, Peers: 3, Term: 6, Vote: 1, Role: impl.RlLead, Lead: 1, Base: 7, BaseTerm: 3, Log: richWal().Entries, Commit: 8, Next: []int{8, 12, 10}, Match: []int{0, 11, 8}}
}

// newCore has nothing yet.
func newCore(id, peers int) impl.Core {
	return impl.Core{Id: id, Peers: peers, Vote: -1, Role: impl.RlFollow, Lead: -1}
}

// leadOver leads with this log and all others at its beginning.
func leadOver(id, peers, term, base, baseTerm, commit int, log ...impl.Entry) impl.Core {
	last := base + len(log)
	c := impl.Core{Id: id, Peers: peers, Term: term, Vote: id, Role: impl.RlLead, Lead: id, Base: base, BaseTerm: baseTerm, Log: log, Commit: commit, Next: slices.Repeat([]int{last + 1}, peers), Match: make([]int, peers)}
	c.Match[id] = last
	return c
}

// fullCores follow, seek and lead with a Log of MaxLog, and with a last number of MaxIndex.
func fullCores() []impl.Core {
	var l []impl.Core
	for _, c := range []impl.Core{followCore(), seekCore(), leadCore()} {
		for _, at := range []struct{ base, many int }{{0, 60}, {7, 60}, {99940, 60}, {99999, 1}, {100000, 0}} {
			l = append(l, coreWith(c, func(c *impl.Core) { fill(c, at.base, at.many) }))
		}
	}
	return l
}

// fill gives the core so many Entries behind base, the last ones of its Term.
func fill(c *impl.Core, base, many int) {
	c.Base, c.BaseTerm, c.Log, c.Commit = base, min(base, 3), sameEntries(many, 3, "e"), base
	for i := max(0, many-2); i < many; i++ {
		c.Log[i] = impl.Entry{Term: c.Term, Data: "late"}
	}
	if c.Role == impl.RlLead {
		c.Next, c.Match = slices.Repeat([]int{base + many + 1}, c.Peers), make([]int, c.Peers)
		c.Match[c.Id] = base + many
	}
}

// someCores are right ones of each Role.
func someCores() []impl.Core {
	return append(fullCores(), followCore(), seekCore(), leadCore(), newCore(0, 1), newCore(4, 5), newCore(1, 2),
		coreWith(followCore(), func(c *impl.Core) { c.Vote, c.Lead = 2, 2 }), coreWith(followCore(), func(c *impl.Core) { c.Vote, c.Lead, c.Commit = 1, 0, 11 }), coreWith(followCore(), func(c *impl.Core) { c.Log, c.Commit = nil, 7 }),
		coreWith(seekCore(), func(c *impl.Core) { c.Peers, c.Yes = 2, []int{1} }), coreWith(seekCore(), func(c *impl.Core) { c.Peers, c.Yes, c.Term = 3, []int{1}, 100000 }), coreWith(seekCore(), func(c *impl.Core) { c.Yes, c.Commit = []int{0, 1}, 11 }),
		leadOver(0, 1, 6, 0, 0, 0, entriesOf(1, 2)...), leadOver(0, 1, 6, 0, 0, 0), leadOver(4, 5, 100000, 2, 1, 3, entriesOf(2, 4, 4, 4, 100000, 100000)...), coreWith(leadCore(), func(c *impl.Core) { c.Next, c.Match = []int{3, 12, 7}, []int{2, 11, 0} }))
}

func TestCoreConstants(t *testing.T) {
	if got := []int{impl.RlFollow, impl.RlSeek, impl.RlLead}; !slices.Equal(got, []int{1, 2, 3}) {
		t.Errorf("%v", got)
	}
}

// wantCoreOk wants the core to be right or not, its Wal told only if it is, and the zero answer to whatever it hears or does if it is not.
func wantCoreOk(t *testing.T, name string, c impl.Core, right bool) {
	t.Helper()
	if slowCoreOk(c) != right {
		t.Fatalf("%s: is %s right? The words say %v", name, brief(c), !right)
	}
	if impl.CoreOk(c) != right {
		t.Fatalf("%s: CoreOk(%s) = %v", name, brief(c), !right)
	}
	want := impl.Wal{}
	if right {
		want = slowWalOf(c)
	}
	if w := impl.CoreWal(c); !sameWal(w, want) {
		t.Fatalf("%s: CoreWal(%s) = %s", name, brief(c), brief(w))
	}
	if right {
		return
	}
	for _, call := range callsOn(c) {
		wantCore(t, name, call, c, coreAnswer{})
	}
}

// callsOn are calls that would do something to a core of such an Id, if it were right.
func callsOn(c impl.Core) []coreCall {
	from := (c.Id&1 + 1) % 2
	l := []coreCall{electCall(), beatCall(), proposeCall("x"), compactCall(c.Base + 1), compactCall(c.Commit), compactCall(-1)}
	for _, m := range []impl.Msg{voteMsg(from, c.Id, 9, 100, 9), votedMsg(from, c.Id, 6, true), appMsg(from, c.Id, 9, 11, 6, 11), appMsg(from, c.Id, 1, 0, 0, 0), appedMsg(from, c.Id, 6, 11, true), appedMsg(from, c.Id, 6, 0, false), snapMsg(from, c.Id, 9, 100, 9, ""), {}} {
		l = append(l, hearCall(m))
	}
	return l
}

// A coreField is a number of a core.
type coreField func(c *impl.Core) *int

func idOf(c *impl.Core) *int       { return &c.Id }
func peersOf(c *impl.Core) *int    { return &c.Peers }
func termOf(c *impl.Core) *int     { return &c.Term }
func voteOf(c *impl.Core) *int     { return &c.Vote }
func roleOf(c *impl.Core) *int     { return &c.Role }
func leadOf(c *impl.Core) *int     { return &c.Lead }
func baseOf(c *impl.Core) *int     { return &c.Base }
func baseTermOf(c *impl.Core) *int { return &c.BaseTerm }
func commitOf(c *impl.Core) *int   { return &c.Commit }

func yesOf(i int) coreField   { return func(c *impl.Core) *int { return &c.Yes[i] } }
func nextOf(i int) coreField  { return func(c *impl.Core) *int { return &c.Next[i] } }
func matchOf(i int) coreField { return func(c *impl.Core) *int { return &c.Match[i] } }

// wantField wants the core right where the field is from least to most and none of but; it goes to the edges, one past them, and far beyond.
func wantField(t *testing.T, name string, c impl.Core, of coreField, least, most int, but ...int) {
	t.Helper()
	l := []int{math.MinInt, math.MinInt + 1, -1 << 32, least - 2, least - 1, least, least + 1, most - 1, most, most + 1, most + 2, 1 << 32, 1<<32 + least, math.MaxInt - 1, math.MaxInt}
	for n := -3; n <= 13; n++ {
		l = append(l, n)
	}
	for _, n := range append(l, but...) {
		x := coreWith(c, func(c *impl.Core) { *of(c) = n })
		wantCoreOk(t, fmt.Sprint(name, " ", n), x, within(n, least, most) && !slices.Contains(but, n))
	}
}

func TestCoreOkOfOneThatFollows(t *testing.T) {
	c := followCore()
	wantCoreOk(t, "it follows", c, true)
	wantField(t, "Id", c, idOf, 0, 2)
	wantField(t, "Id beside Lead", coreWith(c, func(c *impl.Core) { c.Lead = 2 }), idOf, 0, 1)
	wantField(t, "Peers", c, peersOf, 2, 5)
	wantField(t, "Peers of the first one", coreWith(c, func(c *impl.Core) { c.Id = 0 }), peersOf, 1, 5)
	wantField(t, "Peers of the last one", coreWith(c, func(c *impl.Core) { c.Id = 4 }), peersOf, 5, 5)
	wantField(t, "Peers above Vote", coreWith(c, func(c *impl.Core) { c.Vote = 3 }), peersOf, 4, 5)
	wantField(t, "Peers above Lead", coreWith(c, func(c *impl.Core) { c.Lead = 2 }), peersOf, 3, 5)
	wantField(t, "Term", c, termOf, 6, 100000)
	wantField(t, "Term without Entries", coreWith(c, func(c *impl.Core) { c.Log, c.Commit = nil, 7 }), termOf, 3, 100000)
	wantField(t, "Term of a new one", newCore(1, 3), termOf, 0, 100000)
	wantField(t, "Vote", c, voteOf, -1, 2)
	wantField(t, "Vote of five", coreWith(c, func(c *impl.Core) { c.Peers = 5 }), voteOf, -1, 4)
	wantField(t, "Vote of one", newCore(0, 1), voteOf, -1, 0)
	wantField(t, "Role", c, roleOf, 1, 1)
	wantField(t, "Lead", c, leadOf, -1, 2, 1)
	wantField(t, "Lead of five", coreWith(c, func(c *impl.Core) { c.Peers, c.Id = 5, 4 }), leadOf, -1, 3)
	wantField(t, "Lead of one", newCore(0, 1), leadOf, -1, -1)
	wantField(t, "Base", c, baseOf, 4, 8)
	wantField(t, "Base without Entries", coreWith(c, func(c *impl.Core) { c.Log, c.Commit = nil, 7 }), baseOf, 7, 7)
	wantField(t, "BaseTerm", c, baseTermOf, 1, 3)
	wantField(t, "BaseTerm at Base 0", newCore(1, 3), baseTermOf, 0, 0)
	wantField(t, "Commit", c, commitOf, 7, 11)
	wantField(t, "Commit without Entries", coreWith(c, func(c *impl.Core) { c.Log, c.Commit = nil, 7 }), commitOf, 7, 7)
	wantField(t, "Commit of a new one", newCore(1, 3), commitOf, 0, 0)
}

func TestCoreOkOfOneThatSeeks(t *testing.T) {
	c := seekCore()
	wantCoreOk(t, "it seeks", c, true)
	wantField(t, "Id", c, idOf, 1, 1)
	wantField(t, "Peers", c, peersOf, 4, 5)
	wantField(t, "Peers of one that has none but itself", coreWith(c, func(c *impl.Core) { c.Yes = []int{1} }), peersOf, 2, 5)
	wantField(t, "Term", c, termOf, 6, 100000)
	wantField(t, "Term without Entries", coreWith(c, func(c *impl.Core) { c.Base, c.BaseTerm, c.Log, c.Commit = 0, 0, nil, 0 }), termOf, 1, 100000)
	wantField(t, "Vote", c, voteOf, 1, 1)
	wantField(t, "Role", c, roleOf, 2, 2)
	wantField(t, "Lead", c, leadOf, -1, -1)
	wantField(t, "Base", c, baseOf, 4, 8)
	wantField(t, "BaseTerm", c, baseTermOf, 1, 3)
	wantField(t, "Commit", c, commitOf, 7, 11)
	wantField(t, "the first of Yes", c, yesOf(0), 1, 1)
	wantField(t, "the second of Yes", c, yesOf(1), 2, 4)
	wantField(t, "the first of Yes, ahead of its own", coreWith(c, func(c *impl.Core) { c.Yes = []int{0, 1} }), yesOf(0), 0, 0)
	wantField(t, "the second of Yes, its own", coreWith(c, func(c *impl.Core) { c.Yes = []int{0, 1} }), yesOf(1), 1, 1)
	wantField(t, "the only one of Yes", coreWith(c, func(c *impl.Core) { c.Yes = []int{1} }), yesOf(0), 1, 1)
	for peers := 1; peers <= 5; peers++ {
		for choice := range 1 << 5 {
			var yes []int
			for n := range 5 {
				if choice>>n&1 == 1 {
					yes = append(yes, n)
				}
			}
			for id := range peers {
				x := coreWith(c, func(c *impl.Core) { c.Peers, c.Id, c.Vote, c.Yes = peers, id, id, yes })
				right := slices.Contains(yes, id) && choice < 1<<peers && len(yes) <= map[int]int{1: 0, 2: 1, 3: 1, 4: 2, 5: 2}[peers]
				wantCoreOk(t, fmt.Sprint(yes, " of ", peers), x, right)
			}
		}
	}
	for _, yes := range [][]int{nil, {}, {3, 1}, {1, 1}, {3, 3}, {0, 3}, {1, 3, 4}, {1, 3, 3}, {1, 5}, {-1, 1}, {1, math.MaxInt}, {math.MinInt, 1}, {0, 1, 2, 3, 4}, {1, 2, 3, 4, 5, 6}, make([]int, 1000)} {
		wantCoreOk(t, fmt.Sprint("Yes ", len(yes)), coreWith(c, func(c *impl.Core) { c.Yes = yes }), false)
	}
}

func TestCoreOkOfOneThatLeads(t *testing.T) {
	c := leadCore()
	wantCoreOk(t, "it leads", c, true)
	wantField(t, "Id", c, idOf, 1, 1)
	wantField(t, "Peers", c, peersOf, 3, 3)
	wantField(t, "Term", c, termOf, 6, 100000)
	wantField(t, "Term without Entries", leadOver(1, 3, 1, 0, 0, 0), termOf, 1, 100000)
	wantField(t, "Vote", c, voteOf, 1, 1)
	wantField(t, "Role", c, roleOf, 3, 3)
	wantField(t, "Lead", c, leadOf, 1, 1)
	wantField(t, "Base", c, baseOf, 7, 7)
	wantField(t, "BaseTerm", c, baseTermOf, 1, 3)
	wantField(t, "Commit", c, commitOf, 7, 11)
	wantField(t, "Next of another one", c, nextOf(0), 1, 12)
	wantField(t, "Next of itself", c, nextOf(1), 12, 12)
	wantField(t, "Next above Match", c, nextOf(2), 9, 12)
	wantField(t, "Match of another one", c, matchOf(0), 0, 7)
	wantField(t, "Match of itself", c, matchOf(1), 11, 11)
	wantField(t, "Match below Next", c, matchOf(2), 0, 9)
	wantField(t, "Match up to the last number", coreWith(c, func(c *impl.Core) { c.Next[0] = 12 }), matchOf(0), 0, 11)
	wantField(t, "Next of the only one", leadOver(0, 1, 1, 0, 0, 0), nextOf(0), 1, 1)
	wantField(t, "Match of the only one", leadOver(0, 1, 1, 0, 0, 0), matchOf(0), 0, 0)
	for peers := 1; peers <= 5; peers++ {
		for many := range 8 {
			x := leadOver(0, peers, 6, 7, 3, 8, richWal().Entries...)
			next, match := slices.Repeat([]int{12}, many), slices.Repeat([]int{11}, many)
			wantCoreOk(t, fmt.Sprint(many, " of Next, of ", peers), coreWith(x, func(c *impl.Core) { c.Next = next }), many == peers)
			wantCoreOk(t, fmt.Sprint(many, " of Match, of ", peers), coreWith(x, func(c *impl.Core) { c.Match = match }), many == peers)
			wantCoreOk(t, fmt.Sprint(many, " of both, of ", peers), coreWith(x, func(c *impl.Core) { c.Next, c.Match = next, match }), many == peers)
		}
	}
	wantCoreOk(t, "Next and Match in each other's place", coreWith(c, func(c *impl.Core) { c.Next, c.Match = c.Match, c.Next }), false)
	wantCoreOk(t, "far too many", coreWith(c, func(c *impl.Core) { c.Next, c.Match = slices.Repeat([]int{12}, 5000), slices.Repeat([]int{11}, 5000) }), false)
}

// Lists that a Role leaves empty: nil, empty and not nil, and with something in them.
func TestCoresWithListsOfAnotherRole(t *testing.T) {
	for _, l := range [][]int{{1}, {0}, {1, 3}, {8, 12, 10}, {0, 11, 8}, {-1}, {12, 12, 12}} {
		for _, c := range []impl.Core{followCore(), seekCore(), newCore(0, 1), newCore(0, 3)} {
			wantCoreOk(t, "with Next", coreWith(c, func(c *impl.Core) { c.Next = l }), false)
			wantCoreOk(t, "with Match", coreWith(c, func(c *impl.Core) { c.Match = l }), false)
			wantCoreOk(t, "with Next and Match", coreWith(c, func(c *impl.Core) { c.Next, c.Match = []int{8, 12, 10}, []int{0, 11, 8} }), false)
		}
		for _, c := range []impl.Core{followCore(), leadCore(), newCore(0, 1), newCore(1, 3)} {
			wantCoreOk(t, "with Yes", coreWith(c, func(c *impl.Core) { c.Yes = l }), false)
		}
	}
	none := []int{}
	wantCoreOk(t, "empty and not nil", coreWith(followCore(), func(c *impl.Core) { c.Yes, c.Next, c.Match = none, none, none }), true)
	wantCoreOk(t, "empty and not nil", coreWith(seekCore(), func(c *impl.Core) { c.Next, c.Match = none, none }), true)
	wantCoreOk(t, "empty and not nil", coreWith(leadCore(), func(c *impl.Core) { c.Yes = none }), true)
	wantCoreOk(t, "a Log that is empty and not nil", coreWith(followCore(), func(c *impl.Core) { c.Log, c.Commit = []impl.Entry{}, 7 }), true)
}

// coreFaults each make a right core wrong, of whatever Role it is.
func coreFaults() []func(c *impl.Core) {
	return []func(c *impl.Core){
		func(c *impl.Core) { c.Peers = 0 }, func(c *impl.Core) { c.Peers = 6 }, func(c *impl.Core) { c.Id = -1 }, func(c *impl.Core) { c.Id = c.Peers }, func(c *impl.Core) { c.Term = -1 }, func(c *impl.Core) { c.Term = 100001 }, func(c *impl.Core) { c.Vote = -2 }, func(c *impl.Core) { c.Vote = c.Peers },
		func(c *impl.Core) { c.Role = 0 }, func(c *impl.Core) { c.Role = 4 }, func(c *impl.Core) { c.Lead = -2 }, func(c *impl.Core) { c.Lead = c.Peers }, func(c *impl.Core) { c.Commit = -1 }, func(c *impl.Core) { c.Commit = math.MaxInt }, func(c *impl.Core) { c.Base = -1 }, func(c *impl.Core) { c.BaseTerm = -1 },
		func(c *impl.Core) { c.Log = sameEntries(61, 6, "") }, func(c *impl.Core) { c.Log = entriesOf(0) }, func(c *impl.Core) { c.Log = sameEntries(4, 100001, "") }, func(c *impl.Core) { c.Log = sameEntries(4, 6, strings.Repeat("d", 901)) },
		func(c *impl.Core) { c.Yes = []int{5} }, func(c *impl.Core) { c.Next = []int{0} }, func(c *impl.Core) { c.Match = []int{-1, 0, 0} },
	}
}

func TestCoresWithSeveralFaults(t *testing.T) {
	faults := coreFaults()
	for _, c := range []impl.Core{followCore(), seekCore(), leadCore(), newCore(0, 1), newCore(4, 5), leadOver(0, 1, 1, 0, 0, 0)} {
		for i, first := range faults {
			wantCoreOk(t, "one fault", coreWith(c, first), false)
			for _, second := range faults[i+1:] {
				wantCoreOk(t, "two faults", coreWith(coreWith(c, second), first), false)
			}
		}
	}
	wantCoreOk(t, "the zero Core", impl.Core{}, false)
	for _, n := range []int{math.MinInt, -1, math.MaxInt} {
		for _, role := range []int{1, 2, 3, n} {
			wantCoreOk(t, "far too much", impl.Core{Id: n, Peers: n, Term: n, Vote: n, Role: role, Lead: n, Base: n, BaseTerm: n, Log: sameEntries(3, n, "x"), Commit: n, Yes: []int{n, n}, Next: []int{n, n, n}, Match: []int{n}}, false)
		}
	}
}

func TestCoresWithABadWal(t *testing.T) {
	for _, b := range badWals() {
		for role := 1; role <= 3; role++ {
			c := impl.Core{Id: 0, Peers: 5, Term: b.w.Term, Vote: b.w.Vote, Role: role, Lead: -1, Base: b.w.Base, BaseTerm: b.w.BaseTerm, Log: b.w.Entries, Commit: b.w.Base}
			wantCoreOk(t, b.name, c, false)
			if role == impl.RlSeek {
				c.Vote, c.Yes = 0, []int{0}
			}
			if role == impl.RlLead {
				last := b.w.Base + len(b.w.Entries)
				c.Vote, c.Lead, c.Next, c.Match = 0, 0, slices.Repeat([]int{last + 1}, 5), slices.Repeat([]int{last}, 5)
			}
			if !strings.HasPrefix(b.name, "Vote") {
				wantCoreOk(t, b.name, c, false)
			}
		}
	}
}

func TestCoreOfAndCoreWal(t *testing.T) {
	made := 0
	for _, w := range rightWals() {
		for _, peers := range []int{math.MinInt, -1, 0, 1, 2, 3, 4, 5, 6, 7, math.MaxInt} {
			for _, id := range []int{math.MinInt, -1, 0, 1, 2, 3, 4, 5, 6, math.MaxInt} {
				right := within(peers, 1, 5) && within(id, 0, peers-1) && w.Vote < peers
				want := impl.Core{}
				if right {
					want = impl.Core{Id: id, Peers: peers, Term: w.Term, Vote: w.Vote, Role: 1, Lead: -1, Base: w.Base, BaseTerm: w.BaseTerm, Log: w.Entries, Commit: w.Base}
					made++
				}
				c, ok := impl.CoreOf(id, peers, w)
				if ok != right || !sameCore(c, want) {
					t.Fatalf("CoreOf(%d, %d, %s)\n= %s, %v", id, peers, brief(w), brief(c), ok)
				}
				wantCoreOk(t, "CoreOf", c, right)
			}
		}
	}
	if made < 200 {
		t.Errorf("%d were made", made)
	}
	for _, b := range badWals() {
		for peers := 1; peers <= 5; peers++ {
			if c, ok := impl.CoreOf(0, peers, b.w); ok || !sameCore(c, impl.Core{}) {
				t.Errorf("%s: CoreOf = %s, %v", b.name, brief(c), ok)
			}
		}
	}
	for _, c := range someCores() {
		wantCoreOk(t, "some", c, true)
		if again, ok := impl.CoreOf(c.Id, c.Peers, impl.CoreWal(c)); !ok || !sameCore(again, impl.Core{Id: c.Id, Peers: c.Peers, Term: c.Term, Vote: c.Vote, Role: 1, Lead: -1, Base: c.Base, BaseTerm: c.BaseTerm, Log: c.Log, Commit: c.Base}) {
			t.Errorf("CoreOf of CoreWal of %s = %s, %v", brief(c), brief(again), ok)
		}
	}
}

func TestElectByHand(t *testing.T) {
	wantCore(t, "it follows", electCall(), followCore(), coreAnswer{
		c:    coreWith(followCore(), func(c *impl.Core) { c.Term, c.Vote, c.Role, c.Yes = 7, 1, impl.RlSeek, []int{1} }),
		said: []impl.Msg{voteMsg(1, 0, 7, 11, 6), voteMsg(1, 2, 7, 11, 6)},
	})
	wantCore(t, "it follows one, and voted for another", electCall(), coreWith(followCore(), func(c *impl.Core) { c.Vote, c.Lead = 0, 2 }), coreAnswer{
		c:    coreWith(followCore(), func(c *impl.Core) { c.Term, c.Vote, c.Role, c.Yes = 7, 1, impl.RlSeek, []int{1} }),
		said: []impl.Msg{voteMsg(1, 0, 7, 11, 6), voteMsg(1, 2, 7, 11, 6)},
	})
	wantCore(t, "it seeks", electCall(), seekCore(), coreAnswer{
		c:    coreWith(seekCore(), func(c *impl.Core) { c.Term, c.Yes = 7, []int{1} }),
		said: []impl.Msg{voteMsg(1, 0, 7, 11, 6), voteMsg(1, 2, 7, 11, 6), voteMsg(1, 3, 7, 11, 6), voteMsg(1, 4, 7, 11, 6)},
	})
	wantAsItIs(t, "it leads", electCall(), leadCore())
	wantAsItIs(t, "it leads alone", electCall(), leadOver(0, 1, 6, 0, 0, 0, entriesOf(1)...))
	wantCore(t, "it has nothing yet", electCall(), newCore(4, 5), coreAnswer{
		c:    impl.Core{Id: 4, Peers: 5, Term: 1, Vote: 4, Role: impl.RlSeek, Lead: -1, Yes: []int{4}},
		said: []impl.Msg{voteMsg(4, 0, 1, 0, 0), voteMsg(4, 1, 1, 0, 0), voteMsg(4, 2, 1, 0, 0), voteMsg(4, 3, 1, 0, 0)},
	})
	wantCore(t, "it has Base alone", electCall(), coreWith(followCore(), func(c *impl.Core) { c.Peers, c.Log, c.Commit = 2, nil, 7 }), coreAnswer{
		c:    impl.Core{Id: 1, Peers: 2, Term: 7, Vote: 1, Role: impl.RlSeek, Lead: -1, Base: 7, BaseTerm: 3, Commit: 7, Yes: []int{1}},
		said: []impl.Msg{voteMsg(1, 0, 7, 7, 3)},
	})
}

func TestElectAlone(t *testing.T) {
	wantCore(t, "it has nothing yet", electCall(), newCore(0, 1), coreAnswer{c: leadOver(0, 1, 1, 0, 0, 1, impl.Entry{Term: 1})})
	alone := coreWith(followCore(), func(c *impl.Core) { c.Id, c.Peers = 0, 1 })
	log := append(richWal().Entries, impl.Entry{Term: 7})
	wantCore(t, "all that it has is agreed on", electCall(), alone, coreAnswer{c: leadOver(0, 1, 7, 7, 3, 12, log...)})
	wantCore(t, "it voted for itself", electCall(), coreWith(alone, func(c *impl.Core) { c.Vote, c.Commit = 0, 11 }), coreAnswer{c: leadOver(0, 1, 7, 7, 3, 12, log...)})
	for _, at := range []struct {
		base, many int
		room       bool
	}{{0, 59, true}, {0, 60, false}, {7, 59, true}, {7, 60, false}, {99940, 59, true}, {99940, 60, false}, {99941, 58, true}, {99941, 59, false}, {99998, 1, true}, {99999, 1, false}, {99999, 0, true}, {100000, 0, false}} {
		c := coreWith(alone, func(c *impl.Core) { fill(c, at.base, at.many) })
		log, commit := slices.Clone(c.Log), at.base
		if at.room {
			log = append(log, impl.Entry{Term: 7})
			commit = at.base + at.many + 1
		}
		wantCore(t, fmt.Sprint(at), electCall(), c, coreAnswer{c: leadOver(0, 1, 7, at.base, c.BaseTerm, commit, log...)})
	}
}

func TestElectAtMaxTerm(t *testing.T) {
	for _, c := range []impl.Core{followCore(), seekCore(), coreWith(followCore(), func(c *impl.Core) { c.Id, c.Peers = 0, 1 }), coreWith(followCore(), func(c *impl.Core) { c.Lead, c.Vote = 0, 0 })} {
		c.Term = 100000
		wantAsItIs(t, "at MaxTerm", electCall(), c)
		c.Term = 99999
		if got := wantCoreWords(t, "below MaxTerm", electCall(), c); got.c.Term != 100000 || got.c.Vote != c.Id || got.c.Role == impl.RlFollow {
			t.Errorf("Elect of %s = %s", brief(c), brief(got))
		}
		again := electCall().do(electCall().do(c).c)
		if again.c.Term != 100000 || len(again.said) != 0 {
			t.Errorf("two times Elect of %s = %s", brief(c), brief(again))
		}
	}
	wantAsItIs(t, "it leads at MaxTerm", electCall(), coreWith(leadCore(), func(c *impl.Core) { c.Term = 100000 }))
}

func TestElectOfFullCores(t *testing.T) {
	for _, c := range fullCores() {
		last := slowLast(c)
		if c.Role == impl.RlLead {
			wantAsItIs(t, "it leads", electCall(), c)
			continue
		}
		got := wantCoreWords(t, "full", electCall(), c)
		if len(got.said) != c.Peers-1 || got.said[0].Index != last || !slices.Equal(got.c.Log, c.Log) {
			t.Errorf("Elect of %s = %s", brief(c), brief(got))
		}
	}
}

// appFrom is what one that leads sends from this number on.
func appFrom(c impl.Core, to, next int) impl.Msg {
	return appMsg(c.Id, to, c.Term, next-1, slowTermAt(c, next-1), c.Commit, c.Log[next-1-c.Base:min(next+3-c.Base, len(c.Log))]...)
}

func TestBeatByHand(t *testing.T) {
	for _, c := range []impl.Core{followCore(), seekCore(), newCore(0, 1), newCore(2, 3), leadOver(0, 1, 6, 7, 3, 8, richWal().Entries...), coreWith(followCore(), func(c *impl.Core) { c.Lead = 2 })} {
		wantAsItIs(t, "nobody is told", beatCall(), c)
	}
	log := richWal().Entries
	for _, c := range []struct {
		next int
		m    impl.Msg
	}{
		{1, snapMsg(1, 2, 6, 7, 3, "")}, {6, snapMsg(1, 2, 6, 7, 3, "")}, {7, snapMsg(1, 2, 6, 7, 3, "")}, {8, appMsg(1, 2, 6, 7, 3, 8, log...)}, {9, appMsg(1, 2, 6, 8, 3, 8, log[1:]...)},
		{10, appMsg(1, 2, 6, 9, 3, 8, log[2:]...)}, {11, appMsg(1, 2, 6, 10, 5, 8, log[3])}, {12, appMsg(1, 2, 6, 11, 6, 8)},
	} {
		x := coreWith(leadCore(), func(c *impl.Core) { c.Match[2] = 0 })
		x.Next[2] = c.next
		wantCore(t, fmt.Sprint("Next ", c.next), beatCall(), x, coreAnswer{c: x, said: []impl.Msg{appMsg(1, 0, 6, 7, 3, 8, log...), c.m}})
	}
	first := leadOver(0, 2, 1, 0, 0, 0)
	wantCore(t, "there is nothing", beatCall(), first, coreAnswer{c: first, said: []impl.Msg{appMsg(0, 1, 1, 0, 0, 0)}})
}

func TestBeatOfALongLog(t *testing.T) {
	for _, at := range []struct{ base, many int }{{0, 1}, {0, 3}, {0, 4}, {0, 5}, {0, 6}, {0, 60}, {9, 5}, {9, 60}, {99940, 60}, {99995, 5}} {
		x := coreWith(leadOver(3, 5, 6, 0, 0, 0), func(c *impl.Core) { fill(c, at.base, at.many) })
		for next := max(at.base-1, 1); next <= at.base+at.many+1; next++ {
			c := coreWith(x, func(c *impl.Core) { c.Next[0], c.Next[4] = next, next })
			want := appMsg(3, 0, 6, at.base, c.BaseTerm, at.base)
			if next <= at.base {
				want = snapMsg(3, 0, 6, at.base, c.BaseTerm, "")
			} else {
				want = appFrom(c, 0, next)
			}
			got := wantCoreWords(t, fmt.Sprint(at, " from ", next), beatCall(), c)
			if len(got.said) != 4 || !sameMsg(got.said[0], want) || !sameCore(got.c, c) {
				t.Fatalf("Beat of %s = %s", brief(c), brief(got))
			}
			if left := at.base + at.many + 1 - next; next > at.base && len(got.said[0].Entries) != min(left, 4) {
				t.Fatalf("Beat from %d of %v has %d Entries", next, at, len(got.said[0].Entries))
			}
		}
	}
}

func TestProposeByHand(t *testing.T) {
	for _, c := range []impl.Core{followCore(), seekCore(), newCore(0, 1), newCore(2, 3), coreWith(followCore(), func(c *impl.Core) { c.Lead = 2 })} {
		for _, data := range []string{"", "x", strings.Repeat("d", 900), strings.Repeat("d", 901)} {
			wantAsItIs(t, "it does not lead", proposeCall(data), c)
		}
	}
	log := append(richWal().Entries, impl.Entry{Term: 6, Data: "x"})
	wantCore(t, "with others", proposeCall("x"), leadCore(), coreAnswer{
		c:    coreWith(leadCore(), func(c *impl.Core) { c.Log, c.Next[1], c.Match[1] = log, 13, 12 }),
		said: []impl.Msg{appMsg(1, 0, 6, 7, 3, 8, log[:4]...), appMsg(1, 2, 6, 9, 3, 8, log[2:]...)}, number: 12,
	})
	wantCore(t, "one is behind Base", proposeCall(""), coreWith(leadCore(), func(c *impl.Core) { c.Next[0] = 7 }), coreAnswer{
		c: coreWith(leadCore(), func(c *impl.Core) {
			c.Log, c.Next, c.Match[1] = append(richWal().Entries, impl.Entry{Term: 6}), []int{7, 13, 10}, 12
		}),
		said: []impl.Msg{snapMsg(1, 0, 6, 7, 3, ""), appMsg(1, 2, 6, 9, 3, 8, append(richWal().Entries[2:], impl.Entry{Term: 6})...)}, number: 12,
	})
	wantCore(t, "alone", proposeCall("x"), leadOver(0, 1, 6, 7, 3, 8, richWal().Entries...), coreAnswer{c: leadOver(0, 1, 6, 7, 3, 12, log...), number: 12})
	wantCore(t, "alone with nothing", proposeCall("x"), leadOver(0, 1, 6, 0, 0, 0), coreAnswer{c: leadOver(0, 1, 6, 0, 0, 1, log[4]), number: 1})
	later := leadOver(1, 3, 9, 7, 3, 8, richWal().Entries...)
	wantCore(t, "in a later Term", proposeCall("y"), later, coreAnswer{
		c: coreWith(later, func(c *impl.Core) {
			c.Log, c.Next[1], c.Match[1] = append(c.Log, impl.Entry{Term: 9, Data: "y"}), 13, 12
		}),
		said: []impl.Msg{appMsg(1, 0, 9, 11, 6, 8, impl.Entry{Term: 9, Data: "y"}), appMsg(1, 2, 9, 11, 6, 8, impl.Entry{Term: 9, Data: "y"})}, number: 12,
	})
}

func TestProposeAtTheEdges(t *testing.T) {
	for _, data := range []string{"", "x", allBytes(), strings.Repeat("d", 899), strings.Repeat("d", 900)} {
		for _, c := range []impl.Core{leadCore(), leadOver(0, 1, 6, 0, 0, 0), leadOver(4, 5, 6, 7, 3, 8, richWal().Entries...)} {
			if got := wantCoreWords(t, "data", proposeCall(data), c); got.number != slowLast(c)+1 || got.c.Log[len(c.Log)] != (impl.Entry{Term: 6, Data: data}) || len(got.said) != c.Peers-1 {
				t.Errorf("Propose of %s of %s = %s", brief(data), brief(c), brief(got))
			}
		}
	}
	for _, data := range []string{strings.Repeat("d", 901), strings.Repeat("d", 2000), strings.Repeat("d", 100000)} {
		wantAsItIs(t, "data too long", proposeCall(data), leadCore())
		wantAsItIs(t, "data too long", proposeCall(data), leadOver(0, 1, 6, 0, 0, 0))
	}
	for _, at := range []struct {
		base, many int
		room       bool
	}{{0, 58, true}, {0, 59, true}, {0, 60, false}, {7, 59, true}, {7, 60, false}, {99940, 59, true}, {99940, 60, false}, {99941, 58, true}, {99941, 59, false}, {99998, 1, true}, {99999, 0, true}, {99999, 1, false}, {100000, 0, false}} {
		for _, x := range []impl.Core{leadCore(), leadOver(0, 1, 6, 0, 0, 0), leadOver(4, 5, 6, 0, 0, 0)} {
			c := coreWith(x, func(c *impl.Core) { fill(c, at.base, at.many) })
			if !at.room {
				wantAsItIs(t, "no room", proposeCall("x"), c)
				wantAsItIs(t, "no room", proposeCall(""), c)
				continue
			}
			if got := wantCoreWords(t, "room", proposeCall("x"), c); got.number != at.base+at.many+1 || len(got.c.Log) != at.many+1 {
				t.Errorf("Propose of %s = %s", brief(c), brief(got))
			}
		}
	}
}

// What is counted when an Entry is proposed or matched: the greatest number of its Term that a majority has.
func TestCounting(t *testing.T) {
	log := entriesOf(2, 4, 6, 6, 6)
	for _, c := range []struct {
		name   string
		match  []int
		commit int
		want   int
	}{
		{"alone", []int{5}, 0, 6}, {"alone, agreed before", []int{5}, 5, 6},
		{"one of two", []int{5, 0}, 0, 0}, {"both up to an old term", []int{5, 2}, 0, 0}, {"both up to the Term", []int{5, 3}, 0, 3}, {"both", []int{5, 5}, 0, 5},
		{"one of three", []int{5, 0, 0}, 0, 0}, {"two of three", []int{5, 4, 0}, 0, 4}, {"two of three, the other two", []int{5, 0, 3}, 1, 3}, {"two of three at an old term", []int{5, 2, 1}, 0, 0}, {"three of three", []int{5, 4, 5}, 0, 5}, {"not above Commit", []int{5, 4, 0}, 4, 4}, {"below Commit", []int{5, 3, 0}, 4, 4},
		{"two of four", []int{5, 5, 0, 0}, 0, 0}, {"three of four", []int{5, 5, 3, 0}, 0, 3}, {"three of four, at another place", []int{5, 0, 4, 5}, 0, 4},
		{"two of five", []int{5, 5, 0, 0, 0}, 0, 0}, {"three of five", []int{5, 3, 0, 4, 0}, 0, 3}, {"three of five at an old term", []int{5, 5, 2, 1, 0}, 0, 0}, {"four of five", []int{5, 3, 4, 5, 0}, 0, 4}, {"five of five", []int{5, 5, 5, 5, 5}, 2, 5},
	} {
		peers := len(c.match)
		x := leadOver(0, peers, 6, 0, 0, c.commit, log...)
		x.Match = slices.Clone(c.match)
		got := wantCoreWords(t, c.name, proposeCall("x"), x)
		if got.c.Commit != c.want || got.number != 6 {
			t.Errorf("%s: Commit %d, number %d", c.name, got.c.Commit, got.number)
		}
		for _, m := range got.said {
			if m.Commit != c.want {
				t.Errorf("%s: says %s", c.name, brief(m))
			}
		}
		for to := 1; to < peers; to++ {
			// The last one to come up to its Match is what is counted by.
			x := leadOver(0, peers, 6, 0, 0, c.commit, log...)
			x.Match = slices.Clone(c.match)
			x.Match[to] = 0
			want := c.want
			if c.match[to] == 0 {
				want = c.commit
			}
			if got := wantCoreWords(t, c.name, hearCall(appedMsg(to, 0, 6, c.match[to], true)), x); got.c.Commit != want {
				t.Errorf("%s: Commit %d, want %d", c.name, got.c.Commit, want)
			}
		}
	}
}

func TestCompactAtEachNumber(t *testing.T) {
	for _, c := range someCores() {
		for _, index := range []int{math.MinInt, -1, 0, 1, 2, 3, math.MaxInt} {
			wantCoreWords(t, "anywhere", compactCall(index), c)
		}
		for index := c.Base - 3; index <= slowLast(c)+3; index++ {
			got := wantCoreWords(t, "near", compactCall(index), c)
			if got.done != (index > c.Base && index <= c.Commit) {
				t.Fatalf("Compact at %d of %s = %s", index, brief(c), brief(got))
			}
			if got.done && (got.c.Base != index || got.c.BaseTerm != slowTermAt(c, index) || slowLast(got.c) != slowLast(c) || !slices.Equal(got.c.Log, c.Log[index-c.Base:]) || got.c.Commit != c.Commit) {
				t.Fatalf("Compact at %d of %s = %s", index, brief(c), brief(got))
			}
		}
	}
	log := richWal().Entries
	all := coreWith(leadCore(), func(c *impl.Core) { c.Commit = 11 })
	for index, want := range map[int]impl.Core{
		8:  coreWith(all, func(c *impl.Core) { c.Base, c.BaseTerm, c.Log = 8, 3, log[1:] }),
		9:  coreWith(all, func(c *impl.Core) { c.Base, c.BaseTerm, c.Log = 9, 3, log[2:] }),
		10: coreWith(all, func(c *impl.Core) { c.Base, c.BaseTerm, c.Log = 10, 5, log[3:] }),
		11: coreWith(all, func(c *impl.Core) { c.Base, c.BaseTerm, c.Log = 11, 6, nil }),
	} {
		wantCore(t, "it leads", compactCall(index), all, coreAnswer{c: want, done: true})
	}
	for _, index := range []int{-1, 0, 6, 7, 9, 10, 11, 12} {
		for _, c := range []impl.Core{followCore(), seekCore(), leadCore()} {
			wantAsItIs(t, "not there or not agreed on", compactCall(index), c)
		}
	}
	wantCore(t, "it follows", compactCall(8), coreWith(followCore(), func(c *impl.Core) { c.Lead = 2 }), coreAnswer{c: coreWith(followCore(), func(c *impl.Core) { c.Lead, c.Base, c.BaseTerm, c.Log = 2, 8, 3, log[1:] }), done: true})
	wantCore(t, "it seeks", compactCall(8), seekCore(), coreAnswer{c: coreWith(seekCore(), func(c *impl.Core) { c.Base, c.BaseTerm, c.Log = 8, 3, log[1:] }), done: true})
}

// Compacted at one number and then at another is compacted at the other.
func TestCompactTwice(t *testing.T) {
	for _, c := range []impl.Core{coreWith(followCore(), func(c *impl.Core) { c.Commit = 11 }), coreWith(leadCore(), func(c *impl.Core) { c.Commit = 10 }), coreWith(seekCore(), func(c *impl.Core) { c.Commit = 11 })} {
		for first := c.Base + 1; first <= c.Commit; first++ {
			for second := first + 1; second <= c.Commit; second++ {
				x := wantCoreWords(t, "first", compactCall(first), c)
				y := wantCoreWords(t, "second", compactCall(second), x.c)
				if once := compactCall(second).do(c); !sameCoreAnswer(once, y) {
					t.Fatalf("Compact at %d and %d of %s = %s, at once %s", first, second, brief(c), brief(y), brief(once))
				}
			}
		}
	}
}

// byKind has a message of each kind from 0 to 1, of this Term, that would do something to one of the three cores.
func byKind(term int) []impl.Msg {
	return []impl.Msg{
		voteMsg(0, 1, term, 20, term), votedMsg(0, 1, term, true), votedMsg(0, 1, term, false), appMsg(0, 1, term, 11, min(term, 6), 11, impl.Entry{Term: term, Data: "new"}), appMsg(0, 1, term, 7, min(term, 3), 11),
		appedMsg(0, 1, term, 9, true), appedMsg(0, 1, term, 3, false), snapMsg(0, 1, term, 20, term, "state"), snapMsg(0, 1, term, 8, min(term, 3), ""),
	}
}

// threeCores are one of each Role; two of them may be asked by server 0 alone.
func threeCores() []impl.Core {
	return []impl.Core{followCore(), seekCore(), leadCore(), coreWith(followCore(), func(c *impl.Core) { c.Vote, c.Lead = 2, 2 }), coreWith(seekCore(), func(c *impl.Core) { c.Peers, c.Yes = 2, []int{1} })}
}

func TestHearOfAnOlderTerm(t *testing.T) {
	for _, c := range threeCores() {
		for _, term := range []int{1, 3, 5} {
			for _, m := range byKind(term) {
				var said []impl.Msg
				switch m.Kind {
				case impl.MsVote:
					said = []impl.Msg{votedMsg(1, 0, 6, false)}
				case impl.MsApp, impl.MsSnap:
					said = []impl.Msg{appedMsg(1, 0, 6, 0, false)}
				}
				wantCore(t, "an older Term", hearCall(m), c, coreAnswer{c: c, said: said})
			}
		}
	}
	top := coreWith(followCore(), func(c *impl.Core) { c.Term = 100000 })
	wantCore(t, "just below MaxTerm", hearCall(voteMsg(2, 1, 99999, 100, 99999)), top, coreAnswer{c: top, said: []impl.Msg{votedMsg(1, 2, 100000, false)}})
}

// A message of a later Term makes whoever hears it follow in that Term, without a vote, ahead of all else.
func TestHearOfALaterTerm(t *testing.T) {
	for _, x := range threeCores() {
		for _, term := range []int{7, 8, 99999, 100000} {
			c := coreWith(x, func(c *impl.Core) {
				c.Term, c.Vote, c.Role, c.Lead, c.Yes, c.Next, c.Match = term, -1, impl.RlFollow, -1, nil, nil, nil
			})
			lead := coreWith(c, func(c *impl.Core) { c.Lead = 0 })
			yes := func(index int) []impl.Msg { return []impl.Msg{appedMsg(1, 0, term, index, true)} }
			for _, y := range []struct {
				m    impl.Msg
				want coreAnswer
			}{
				{voteMsg(0, 1, term, 20, term), coreAnswer{c: coreWith(c, func(c *impl.Core) { c.Vote = 0 }), said: []impl.Msg{votedMsg(1, 0, term, true)}}},
				{voteMsg(0, 1, term, 10, 6), coreAnswer{c: c, said: []impl.Msg{votedMsg(1, 0, term, false)}}},
				{votedMsg(0, 1, term, true), coreAnswer{c: c}}, {votedMsg(0, 1, term, false), coreAnswer{c: c}}, {appedMsg(0, 1, term, 11, true), coreAnswer{c: c}}, {appedMsg(0, 1, term, 3, false), coreAnswer{c: c}},
				{appMsg(0, 1, term, 11, 6, 9), coreAnswer{c: coreWith(lead, func(c *impl.Core) { c.Commit = 9 }), said: yes(11)}},
				{appMsg(0, 1, term, 11, 6, 0, impl.Entry{Term: term, Data: "n"}), coreAnswer{c: coreWith(lead, func(c *impl.Core) { c.Log = append(c.Log, impl.Entry{Term: term, Data: "n"}) }), said: yes(12)}},
				{appMsg(0, 1, term, 12, 6, 12), coreAnswer{c: lead, said: []impl.Msg{appedMsg(1, 0, term, 11, false)}}},
				{snapMsg(0, 1, term, 8, 3, "s"), coreAnswer{c: lead, said: yes(8)}},
				{snapMsg(0, 1, term, 20, term, "s"), coreAnswer{c: coreWith(lead, func(c *impl.Core) { c.Base, c.BaseTerm, c.Log, c.Commit = 20, term, nil, 20 }), said: yes(20)}},
			} {
				wantCore(t, "a later Term", hearCall(y.m), x, y.want)
			}
		}
	}
}

func TestHearOfWhatIsNotForIt(t *testing.T) {
	for _, c := range threeCores() {
		for _, term := range []int{5, 6, 7} {
			for _, m := range byKind(term) {
				for _, to := range []int{0, 2, 3, 4, 5, -1, 11} {
					x := m
					x.To = to
					wantAsItIs(t, "to another one", hearCall(x), c)
					x.From = 1
					wantAsItIs(t, "to another one, from itself", hearCall(x), c)
				}
				for _, from := range []int{-1, 1, 5, 11, math.MaxInt, math.MinInt} {
					x := m
					x.From = from
					wantAsItIs(t, "from nobody", hearCall(x), c)
				}
				for from := c.Peers; from < 5; from++ {
					x := m
					x.From = from
					wantAsItIs(t, "from one that is not among them", hearCall(x), c)
				}
				for _, turn := range msgTurns() {
					x := m
					turn.do(&x)
					if !slowMsgOk(x) {
						wantAsItIs(t, "not right", hearCall(x), c)
					}
				}
				for _, kind := range []int{0, -1, 6, 7, 8, math.MaxInt, math.MinInt} {
					x := m
					x.Kind = kind
					wantAsItIs(t, "of no kind", hearCall(x), c)
				}
			}
		}
		for _, m := range []impl.Msg{{}, callMsg(11, 1, 1, flushText), callMsg(14, 1, 300, flushText), toldMsg(1, 11, 1, toldText), toldMsg(0, 11, 1, toldText), callMsg(12, 0, 1, flushText)} {
			wantAsItIs(t, "of the last two kinds, or of none", hearCall(m), c)
		}
	}
	for peers := 2; peers <= 5; peers++ {
		for from := 1; from < 5; from++ {
			c := newCore(0, peers)
			got := wantCoreWords(t, "from each", hearCall(voteMsg(from, 0, 1, 0, 0)), c)
			if (got.c.Vote == from) != (from < peers) || len(got.said) == 1 != (from < peers) {
				t.Errorf("%d of %d: %s", from, peers, brief(got))
			}
		}
	}
}

func TestHearVote(t *testing.T) {
	for _, c := range []struct {
		index, term int
		yes         bool
	}{
		{0, 0, false}, {1, 1, false}, {7, 3, false}, {10, 5, false}, {11, 5, false}, {12, 5, false}, {100000, 5, false},
		{1, 6, false}, {10, 6, false}, {11, 6, true}, {12, 6, true}, {100000, 6, true},
	} {
		for _, vote := range []int{-1, 0, 1, 2} {
			x := coreWith(followCore(), func(c *impl.Core) { c.Vote = vote })
			for _, from := range []int{0, 2} {
				yes := c.yes && (vote == -1 || vote == from)
				want := copyCore(x)
				if yes {
					want.Vote = from
				}
				wantCore(t, fmt.Sprint(c, " of ", from), hearCall(voteMsg(from, 1, 6, c.index, c.term)), x, coreAnswer{c: want, said: []impl.Msg{votedMsg(1, from, 6, yes)}})
			}
		}
		for _, x := range []impl.Core{seekCore(), leadCore(), coreWith(seekCore(), func(c *impl.Core) { c.Peers, c.Yes = 3, []int{1} })} {
			wantCore(t, "it votes for itself", hearCall(voteMsg(2, 1, 6, c.index, c.term)), x, coreAnswer{c: x, said: []impl.Msg{votedMsg(1, 2, 6, false)}})
		}
	}
	// One whose last Entry is of an older Term than its own.
	late := coreWith(followCore(), func(c *impl.Core) { c.Term, c.Lead = 9, 0 })
	for _, c := range []struct {
		index, term int
		yes         bool
	}{{20, 5, false}, {10, 6, false}, {11, 6, true}, {12, 6, true}, {1, 7, true}, {11, 7, true}, {1, 9, true}, {30, 9, true}} {
		want := copyCore(late)
		if c.yes {
			want.Vote = 2
		}
		wantCore(t, fmt.Sprint(c), hearCall(voteMsg(2, 1, 9, c.index, c.term)), late, coreAnswer{c: want, said: []impl.Msg{votedMsg(1, 2, 9, c.yes)}})
	}
	// One with Base alone, and one with nothing.
	base := coreWith(followCore(), func(c *impl.Core) { c.Log, c.Commit = nil, 7 })
	for _, c := range []struct {
		index, term int
		yes         bool
	}{{0, 0, false}, {100, 2, false}, {6, 3, false}, {7, 3, true}, {8, 3, true}, {1, 4, true}} {
		if got := wantCoreWords(t, fmt.Sprint(c), hearCall(voteMsg(0, 1, 6, c.index, c.term)), base); got.said[0].Yes != c.yes {
			t.Errorf("%v: %s", c, brief(got))
		}
	}
	one := coreWith(newCore(1, 3), func(c *impl.Core) { c.Vote, c.Term = 0, 1 })
	wantCore(t, "asked for again", hearCall(voteMsg(0, 1, 1, 0, 0)), one, coreAnswer{c: one, said: []impl.Msg{votedMsg(1, 0, 1, true)}})
	wantCore(t, "asked for by another one", hearCall(voteMsg(2, 1, 1, 5, 1)), one, coreAnswer{c: one, said: []impl.Msg{votedMsg(1, 2, 1, false)}})
	wantCore(t, "asked for in the next Term", hearCall(voteMsg(2, 1, 2, 0, 0)), one, coreAnswer{c: coreWith(one, func(c *impl.Core) { c.Term, c.Vote = 2, 2 }), said: []impl.Msg{votedMsg(1, 2, 2, true)}})
}

func TestHearVoted(t *testing.T) {
	for _, c := range []impl.Core{followCore(), leadCore(), newCore(1, 3), coreWith(followCore(), func(c *impl.Core) { c.Vote = 1 })} {
		for _, yes := range []bool{true, false} {
			wantAsItIs(t, "it does not seek", hearCall(votedMsg(0, 1, max(c.Term, 1), yes)), coreWith(c, func(c *impl.Core) { c.Term = max(c.Term, 1) }))
		}
	}
	x := seekCore()
	for _, from := range []int{0, 2, 3, 4} {
		wantAsItIs(t, "not Yes", hearCall(votedMsg(from, 1, 6, false)), x)
	}
	wantAsItIs(t, "Yes again", hearCall(votedMsg(3, 1, 6, true)), x)
	alone := coreWith(x, func(c *impl.Core) { c.Yes = []int{1} })
	for from, yes := range map[int][]int{0: {0, 1}, 2: {1, 2}, 3: {1, 3}, 4: {1, 4}} {
		wantCore(t, "not yet a majority", hearCall(votedMsg(from, 1, 6, true)), alone, coreAnswer{c: coreWith(x, func(c *impl.Core) { c.Yes = yes })})
	}
	log := append(richWal().Entries, impl.Entry{Term: 6})
	lead := leadOver(1, 5, 6, 7, 3, 8, log...)
	lead.Next = []int{12, 13, 12, 12, 12}
	var said []impl.Msg
	for _, to := range []int{0, 2, 3, 4} {
		said = append(said, appMsg(1, to, 6, 11, 6, 8, impl.Entry{Term: 6}))
	}
	for _, from := range []int{0, 2, 4} {
		wantCore(t, "a majority of five", hearCall(votedMsg(from, 1, 6, true)), x, coreAnswer{c: lead, said: said})
	}
}

// How many have to say Yes, of each number of servers, in each order.
func TestVotesUpToAndPastTheMajority(t *testing.T) {
	for peers := 2; peers <= 5; peers++ {
		need := map[int]int{2: 2, 3: 2, 4: 3, 5: 3}[peers]
		for id := range peers {
			for start := range peers {
				c := electCall().do(newCore(id, peers)).c
				many := 1
				for i := range peers {
					from := (start + i) % peers
					if from == id {
						continue
					}
					no := wantCoreWords(t, "no", hearCall(votedMsg(from, id, 1, false)), c)
					got := wantCoreWords(t, "yes", hearCall(votedMsg(from, id, 1, true)), no.c)
					many++
					if (got.c.Role == impl.RlLead) != (many >= need) || (len(got.said) > 0) != (many == need) {
						t.Fatalf("%d of %d: %s", many, peers, brief(got))
					}
					if many == need {
						wantLeads(t, no.c, got)
					}
					again := wantCoreWords(t, "once more", hearCall(votedMsg(from, id, 1, true)), got.c)
					if !sameCore(again.c, got.c) || len(again.said) > 0 {
						t.Fatalf("%d of %d: %s", many, peers, brief(again))
					}
					c = got.c
				}
			}
		}
	}
}

// wantLeads wants one that sought to lead with an Entry of its own, which it sends to all others.
func wantLeads(t *testing.T, c impl.Core, got coreAnswer) {
	t.Helper()
	last := slowLast(c)
	x := got.c
	if x.Role != impl.RlLead || x.Lead != c.Id || len(x.Yes) != 0 || slowLast(x) != last+1 || x.Log[len(c.Log)] != (impl.Entry{Term: c.Term}) || x.Commit != c.Commit {
		t.Fatalf("%s leads as %s", brief(c), brief(x))
	}
	for to := range c.Peers {
		next, match := last+1, 0
		if to == c.Id {
			next, match = last+2, last+1
		}
		if x.Next[to] != next || x.Match[to] != match {
			t.Fatalf("%s leads as %s", brief(c), brief(x))
		}
	}
	if len(got.said) != c.Peers-1 {
		t.Fatalf("%s leads and says %s", brief(c), brief(got.said))
	}
	for _, m := range got.said {
		if !sameMsg(m, appMsg(c.Id, m.To, c.Term, last, slowTermAt(c, last), c.Commit, impl.Entry{Term: c.Term})) {
			t.Fatalf("%s leads and says %s", brief(c), brief(m))
		}
	}
}

// One that comes to lead with no room for an Entry of its own leads all the same.
func TestLeadingWithoutRoom(t *testing.T) {
	for _, at := range []struct {
		base, many int
		room       bool
	}{{0, 59, true}, {0, 60, false}, {7, 60, false}, {99940, 59, true}, {99940, 60, false}, {99998, 1, true}, {99999, 1, false}, {99999, 0, true}, {100000, 0, false}} {
		c := coreWith(seekCore(), func(c *impl.Core) { fill(c, at.base, at.many) })
		log, last := slices.Clone(c.Log), at.base+at.many
		var entries []impl.Entry
		if at.room {
			entries = []impl.Entry{{Term: 6}}
		}
		want := leadOver(1, 5, 6, at.base, c.BaseTerm, at.base, append(log, entries...)...)
		want.Next = slices.Repeat([]int{last + 1}, 5)
		want.Next[1] = last + len(entries) + 1
		var said []impl.Msg
		for _, to := range []int{0, 2, 3, 4} {
			said = append(said, appMsg(1, to, 6, last, slowTermAt(c, last), at.base, entries...))
		}
		wantCore(t, fmt.Sprint(at), hearCall(votedMsg(4, 1, 6, true)), c, coreAnswer{c: want, said: said})
	}
}

// An appCase is a MsApp from server 2 in Term 6, and what becomes of one that follows: its log behind Base 7, its Commit, and the answer, if there is one.
type appCase struct {
	name     string
	index    int
	term     int
	commit   int
	entries  []impl.Entry
	log      []impl.Entry
	want     int
	answered bool
	yes      bool
	number   int
}

func wantApp(t *testing.T, c impl.Core, x appCase) {
	t.Helper()
	want := coreWith(c, func(c *impl.Core) { c.Role, c.Lead, c.Yes, c.Log, c.Commit = impl.RlFollow, 2, nil, x.log, x.want })
	var said []impl.Msg
	if x.answered {
		said = []impl.Msg{appedMsg(1, 2, 6, x.number, x.yes)}
	}
	wantCore(t, x.name, hearCall(appMsg(2, 1, 6, x.index, x.term, x.commit, x.entries...)), c, coreAnswer{c: want, said: said})
}

func oneEntry(term int, data string) []impl.Entry {
	return []impl.Entry{{Term: term, Data: data}}
}

func TestHearApp(t *testing.T) {
	log := richWal().Entries
	with := func(n int, more ...impl.Entry) []impl.Entry { return append(slices.Clone(log[:n]), more...) }
	for _, x := range []appCase{
		{"at the last number", 11, 6, 0, nil, log, 8, true, true, 11},
		{"at the last number, with an Entry", 11, 6, 0, oneEntry(6, "n"), with(4, oneEntry(6, "n")...), 8, true, true, 12},
		{"at the last number, with four", 11, 6, 0, sameEntries(4, 6, "n"), with(4, sameEntries(4, 6, "n")...), 8, true, true, 15},
		{"one above the last number", 12, 6, 12, nil, log, 8, true, false, 11}, {"one above, with an Entry", 12, 6, 12, oneEntry(6, "n"), log, 8, true, false, 11}, {"far above", 100000, 6, 100000, nil, log, 8, true, false, 11},
		{"above, of another term", 12, 1, 12, nil, log, 8, true, false, 11},
		{"the last number has another term", 11, 5, 11, nil, log, 8, true, false, 10}, {"the last number has another term, with an Entry", 11, 5, 11, oneEntry(6, "n"), log, 8, true, false, 10},
		{"a number in Log has another term, below", 10, 4, 11, nil, log, 8, true, false, 9}, {"a number in Log has another term, above", 10, 6, 11, nil, log, 8, true, false, 9},
		{"two numbers side by side with a term, the second", 9, 2, 11, nil, log, 8, true, false, 7}, {"two numbers side by side with a term, the first", 8, 2, 11, nil, log, 8, true, false, 7}, {"one that is agreed on", 8, 5, 11, oneEntry(6, "n"), log, 8, true, false, 7},
		{"in Log", 9, 3, 0, nil, log, 8, true, true, 9}, {"in Log, with what is there", 9, 3, 0, log[2:], log, 8, true, true, 11}, {"in Log, with a part of it", 9, 3, 0, log[2:3], log, 8, true, true, 10},
		{"what is there has other data", 9, 3, 0, append(oneEntry(5, "other"), oneEntry(6, "data")...), log, 8, true, true, 11},
		{"there and more", 9, 3, 0, append(slices.Clone(log[2:]), oneEntry(6, "n")...), with(4, oneEntry(6, "n")...), 8, true, true, 12},
		{"parts at the first Entry", 9, 3, 0, oneEntry(6, "n"), with(2, oneEntry(6, "n")...), 8, true, true, 10}, {"parts at the first Entry, with more", 9, 3, 0, append(oneEntry(6, "n"), oneEntry(6, "o")...), with(2, append(oneEntry(6, "n"), oneEntry(6, "o")...)...), 8, true, true, 11},
		{"parts at the second Entry", 9, 3, 0, append(slices.Clone(log[2:3]), oneEntry(5, "n")...), with(3, oneEntry(5, "n")...), 8, true, true, 11},
		{"parts with an older term", 9, 3, 0, oneEntry(4, "n"), with(2, oneEntry(4, "n")...), 8, true, true, 10},
		{"parts just above Commit", 8, 3, 0, oneEntry(4, "n"), with(1, oneEntry(4, "n")...), 8, true, true, 9}, {"parts just above Commit, behind what is there", 7, 3, 0, append(slices.Clone(log[:1]), oneEntry(5, "n")...), with(1, oneEntry(5, "n")...), 8, true, true, 9},
		{"parts at Commit", 7, 3, 9, oneEntry(4, "n"), log, 8, false, false, 0}, {"parts at Commit, with more", 7, 3, 9, sameEntries(4, 5, "n"), log, 8, false, false, 0},
		{"at Base", 7, 3, 0, nil, log, 8, true, true, 7}, {"at Base, of another term", 7, 2, 0, nil, log, 8, true, true, 7}, {"at Base, of a later term", 7, 6, 0, nil, log, 8, true, true, 7}, {"at Base, with all", 7, 3, 0, log, log, 8, true, true, 11},
		{"at Base, of another term, with all", 7, 1, 0, log, log, 8, true, true, 11}, {"at Base, with an Entry below BaseTerm", 7, 2, 11, oneEntry(2, "n"), log, 8, false, false, 0}, {"at Base, of a later term, with what parts", 7, 4, 11, oneEntry(4, "n"), log, 8, false, false, 0},
	} {
		wantApp(t, followCore(), x)
		wantApp(t, coreWith(followCore(), func(c *impl.Core) { c.Lead, c.Vote = 0, 0 }), x)
		wantApp(t, coreWith(followCore(), func(c *impl.Core) { c.Lead, c.Vote = 2, 1 }), x)
		wantApp(t, seekCore(), x)
		m := appMsg(2, 1, 6, x.index, x.term, x.commit, x.entries...)
		wantAsItIs(t, x.name, hearCall(m), leadCore())
	}
}

func TestHearAppBelowBase(t *testing.T) {
	log := richWal().Entries
	ahead := entriesOf(1, 2, 3)
	with := func(n int, more ...impl.Entry) []impl.Entry { return append(slices.Clone(log[:n]), more...) }
	for _, x := range []appCase{
		{"without Entries", 6, 3, 11, nil, log, 8, true, true, 7}, {"from the beginning on", 0, 0, 11, nil, log, 8, true, true, 7}, {"of any term", 6, 6, 11, nil, log, 8, true, true, 7},
		{"by more than its Entries", 2, 1, 11, ahead, log, 8, true, true, 7}, {"by one more than its Entries", 3, 1, 11, ahead, log, 8, true, true, 7}, {"by just as many", 4, 1, 11, ahead, log, 8, true, true, 7},
		{"by one less", 5, 1, 0, append(entriesOf(2, 3), log[0]), log, 8, true, true, 8}, {"by one less, of another term", 5, 1, 0, entriesOf(2, 3, 4), log, 8, false, false, 0},
		{"by one, with three that are there", 6, 2, 0, append(oneEntry(3, ""), log[:3]...), log, 8, true, true, 10}, {"by one, with Commit", 6, 2, 11, append(oneEntry(3, ""), log[:3]...), log, 10, true, true, 10},
		{"by one, with one below BaseTerm", 6, 1, 11, entriesOf(1, 2), log, 8, false, false, 0}, {"by one, with one below BaseTerm and more", 6, 1, 11, entriesOf(1, 2, 3, 6), log, 8, false, false, 0}, {"by two, with one below BaseTerm left out", 5, 1, 0, append(entriesOf(1, 2), log[0]), log, 8, true, true, 8},
		{"by one, with one of BaseTerm", 6, 1, 0, append(oneEntry(1, ""), oneEntry(3, "other")...), log, 8, true, true, 8},
		{"by one, parts at Commit", 6, 1, 11, entriesOf(1, 4), log, 8, false, false, 0}, {"by one, parts above Commit", 6, 1, 0, append(oneEntry(1, ""), append(oneEntry(3, ""), oneEntry(4, "n")...)...), with(1, oneEntry(4, "n")...), 8, true, true, 9},
	} {
		wantApp(t, followCore(), x)
		wantApp(t, seekCore(), x)
	}
	// Without what is agreed on behind Base, it is BaseTerm alone that keeps an older log out.
	bare := coreWith(followCore(), func(c *impl.Core) { c.Log, c.Commit = nil, 7 })
	for _, x := range []appCase{
		{"at Base, below BaseTerm", 7, 2, 9, oneEntry(2, "n"), nil, 7, false, false, 0}, {"at Base, of BaseTerm", 7, 2, 9, oneEntry(3, "n"), oneEntry(3, "n"), 8, true, true, 8}, {"at Base, above BaseTerm", 7, 2, 7, oneEntry(4, "n"), oneEntry(4, "n"), 7, true, true, 8},
		{"below Base, below BaseTerm", 6, 1, 9, entriesOf(1, 2, 3), nil, 7, false, false, 0}, {"below Base, of BaseTerm", 6, 1, 9, append(oneEntry(1, ""), oneEntry(3, "n")...), oneEntry(3, "n"), 8, true, true, 8}, {"below Base, all left out", 6, 1, 9, oneEntry(1, "n"), nil, 7, true, true, 7},
		{"above", 8, 3, 9, nil, nil, 7, true, false, 7}, {"at Base, without Entries", 7, 1, 9, nil, nil, 7, true, true, 7},
	} {
		wantApp(t, bare, x)
	}
	wantCore(t, "the first of all", hearCall(appMsg(2, 0, 1, 0, 0, 1, oneEntry(1, "a")...)), newCore(0, 3), coreAnswer{
		c:    impl.Core{Id: 0, Peers: 3, Term: 1, Vote: -1, Role: 1, Lead: 2, Log: oneEntry(1, "a"), Commit: 1},
		said: []impl.Msg{appedMsg(0, 2, 1, 1, true)},
	})
}

func TestHearAppWithCommit(t *testing.T) {
	log := richWal().Entries
	for commit := range 16 {
		for _, x := range []struct {
			index, term int
			entries     []impl.Entry
			there       int
		}{{7, 3, nil, 7}, {8, 3, nil, 8}, {9, 3, nil, 9}, {9, 3, log[2:3], 10}, {11, 6, nil, 11}, {11, 6, sameEntries(2, 6, "n"), 13}, {7, 3, log, 11}, {6, 1, log[:1], 7}, {6, 1, append(oneEntry(1, ""), log[:2]...), 9}} {
			want := max(8, min(commit, x.there))
			got := wantCoreWords(t, "Commit", hearCall(appMsg(2, 1, 6, x.index, x.term, commit, x.entries...)), followCore())
			if got.c.Commit != want || len(got.said) != 1 || got.said[0].Index != x.there || !got.said[0].Yes {
				t.Errorf("Commit %d at %d: %s", commit, x.index, brief(got))
			}
		}
		// What is not taken does not tell what is agreed on, either.
		for _, m := range []impl.Msg{appMsg(2, 1, 6, 12, 6, commit), appMsg(2, 1, 6, 10, 6, commit), appMsg(2, 1, 6, 7, 2, commit, oneEntry(2, "n")...), appMsg(2, 1, 6, 7, 3, commit, oneEntry(5, "n")...)} {
			if got := wantCoreWords(t, "refused", hearCall(m), followCore()); got.c.Commit != 8 {
				t.Errorf("Commit %d: %s", commit, brief(got))
			}
		}
	}
}

func TestHearAppPastMaxLog(t *testing.T) {
	for many := 55; many <= 60; many++ {
		for _, base := range []int{0, 7, 99936} {
			c := coreWith(followCore(), func(c *impl.Core) { fill(c, base, many) })
			last := base + many
			for n := range 5 {
				took := min(n, 60-many)
				got := wantCoreWords(t, "at the end", hearCall(appMsg(2, 1, 6, last, 6, 100000, sameEntries(n, 6, "n")...)), c)
				if len(got.c.Log) != many+took || got.c.Commit != last+took || !sameMsg(got.said[0], appedMsg(1, 2, 6, last+took, true)) {
					t.Errorf("%d behind %d: %s", n, many, brief(got))
				}
				// Half of them are there already, or stand in the place of others.
				for _, term := range []int{6, 5} {
					behind := wantCoreWords(t, "two are there", hearCall(appMsg(2, 1, 6, last-2, 3, 0, sameEntries(n, term, "n")...)), c)
					number := last - 2 + min(n, 62-many)
					if len(behind.said) != 1 || behind.said[0].Index != number || len(behind.c.Log) > 60 {
						t.Errorf("%d behind %d less 2: %s", n, many, brief(behind))
					}
				}
			}
		}
	}
	top := coreWith(followCore(), func(c *impl.Core) { fill(c, 99997, 2) })
	if got := wantCoreWords(t, "up to MaxIndex", hearCall(appMsg(2, 1, 6, 99999, 6, 100000, oneEntry(6, "n")...)), top); slowLast(got.c) != 100000 || got.c.Commit != 100000 {
		t.Errorf("up to MaxIndex: %s", brief(got))
	}
}

// A log whose numbers have runs of one term: the first number of the run is what the answer leads to.
func TestHearAppOfAnotherTermAtEachNumber(t *testing.T) {
	c := impl.Core{Id: 1, Peers: 3, Term: 9, Vote: -1, Role: 1, Lead: -1, Base: 3, BaseTerm: 2, Log: entriesOf(2, 2, 4, 4, 4, 5, 7, 7), Commit: 3}
	for index, want := range map[int]int{4: 3, 5: 3, 6: 5, 7: 5, 8: 5, 9: 8, 10: 9, 11: 9} {
		for term := 1; term <= 9; term++ {
			got := wantCoreWords(t, "runs", hearCall(appMsg(2, 1, 9, index, term, 11)), c)
			if same := slowTermAt(c, index) == term; got.said[0].Yes != same || !same && got.said[0].Index != want || same && got.said[0].Index != index {
				t.Errorf("%d of term %d: %s", index, term, brief(got.said))
			}
		}
	}
}

func TestHearApped(t *testing.T) {
	for _, c := range []impl.Core{followCore(), seekCore(), coreWith(followCore(), func(c *impl.Core) { c.Vote = 1 })} {
		for _, index := range []int{0, 8, 11, 12, 100000} {
			wantAsItIs(t, "it does not lead", hearCall(appedMsg(0, 1, 6, index, true)), c)
			wantAsItIs(t, "it does not lead", hearCall(appedMsg(0, 1, 6, index, false)), c)
		}
	}
	log := richWal().Entries
	at := func(next, match, commit int) impl.Core {
		return coreWith(leadCore(), func(c *impl.Core) { c.Next[2], c.Match[2], c.Commit = next, match, commit })
	}
	for _, x := range []struct {
		index int
		want  impl.Core
		said  []impl.Msg
	}{
		{0, leadCore(), nil}, {7, leadCore(), nil}, {8, leadCore(), nil},
		{9, at(10, 9, 8), []impl.Msg{appMsg(1, 2, 6, 9, 3, 8, log[2:]...)}}, {10, at(11, 10, 8), []impl.Msg{appMsg(1, 2, 6, 10, 5, 8, log[3])}},
		{11, at(12, 11, 11), nil}, {12, at(12, 11, 11), nil}, {13, at(12, 11, 11), nil}, {100000, at(12, 11, 11), nil},
	} {
		wantCore(t, fmt.Sprint("Yes at ", x.index), hearCall(appedMsg(2, 1, 6, x.index, true)), leadCore(), coreAnswer{c: x.want, said: x.said})
	}
	for _, x := range []struct {
		next, index, want int
	}{
		{12, 0, 9}, {12, 7, 9}, {12, 8, 9}, {12, 9, 10}, {12, 10, 11}, {12, 11, 11}, {12, 12, 11}, {12, 100000, 11},
		{11, 0, 9}, {11, 8, 9}, {11, 9, 10}, {11, 10, 10}, {11, 11, 10}, {10, 0, 9}, {10, 8, 9}, {10, 9, 9}, {10, 10, 9}, {10, 100000, 9},
	} {
		want := at(x.want, 8, 8)
		wantCore(t, fmt.Sprint("not Yes at ", x.index), hearCall(appedMsg(2, 1, 6, x.index, false)), at(x.next, 8, 8), coreAnswer{c: want, said: []impl.Msg{appFrom(want, 2, x.want)}})
	}
	for _, index := range []int{0, 7, 8, 9, 10, 11, 12, 100000} {
		wantAsItIs(t, "not Yes, with Next just above Match", hearCall(appedMsg(2, 1, 6, index, false)), at(9, 8, 8))
		wantAsItIs(t, "not Yes, with all matched", hearCall(appedMsg(2, 1, 6, index, false)), at(12, 11, 8))
		wantAsItIs(t, "not Yes, with nothing ahead", hearCall(appedMsg(2, 1, 6, index, false)), at(1, 0, 8))
	}
}

// One that is behind Base is sent what Base stands for, whether it lacks more or says how far it is.
func TestHearAppedBehindBase(t *testing.T) {
	at := func(next, match int) impl.Core {
		return coreWith(leadCore(), func(c *impl.Core) { c.Next[0], c.Match[0] = next, match })
	}
	snap := []impl.Msg{snapMsg(1, 0, 6, 7, 3, "")}
	all := []impl.Msg{appMsg(1, 0, 6, 7, 3, 8, richWal().Entries...)}
	for _, x := range []struct {
		name  string
		c     impl.Core
		index int
		yes   bool
		want  impl.Core
		said  []impl.Msg
	}{
		{"it lacks all", at(8, 0), 0, false, at(1, 0), snap}, {"it lacks most", at(12, 0), 5, false, at(6, 0), snap}, {"it lacks what Base stands for", at(8, 0), 7, false, at(7, 0), snap}, {"it has just Base", at(12, 0), 7, false, at(8, 0), all},
		{"one back", at(7, 0), 100, false, at(6, 0), snap}, {"down to Match", at(7, 4), 1, false, at(5, 4), snap}, {"up below Base", at(1, 0), 3, true, at(4, 3), snap}, {"up to just below Base", at(3, 2), 6, true, at(7, 6), snap}, {"up to Base", at(3, 2), 7, true, at(8, 7), all},
	} {
		wantCore(t, x.name, hearCall(appedMsg(0, 1, 6, x.index, x.yes)), x.c, coreAnswer{c: x.want, said: x.said})
	}
	long := leadOver(0, 3, 6, 0, 0, 0, sameEntries(20, 6, "e")...)
	got := wantCoreWords(t, "the next four", hearCall(appedMsg(1, 0, 6, 4, true)), long)
	if got.c.Commit != 4 || len(got.said) != 1 || !sameMsg(got.said[0], appMsg(0, 1, 6, 4, 6, 4, sameEntries(4, 6, "e")...)) {
		t.Errorf("the next four: %s", brief(got))
	}
}

func TestHearSnap(t *testing.T) {
	log := richWal().Entries
	for _, x := range []struct {
		name           string
		index, term    int
		base, baseTerm int
		log            []impl.Entry
		commit         int
	}{
		{"far below Base", 1, 1, 7, 3, log, 8}, {"below Base", 6, 3, 7, 3, log, 8}, {"at Base", 7, 3, 7, 3, log, 8}, {"at Base, of another term", 7, 6, 7, 3, log, 8}, {"at Commit", 8, 3, 7, 3, log, 8}, {"at Commit, of another term", 8, 5, 7, 3, log, 8},
		{"just above Commit", 9, 3, 9, 3, log[2:], 9}, {"just above Commit, of another term", 9, 2, 9, 2, nil, 9}, {"just above Commit, of a later term", 9, 6, 9, 6, nil, 9}, {"in Log", 10, 5, 10, 5, log[3:], 10}, {"in Log, of another term", 10, 6, 10, 6, nil, 10},
		{"at the last number", 11, 6, 11, 6, nil, 11}, {"at the last number, of another term", 11, 5, 11, 5, nil, 11}, {"above the last number", 12, 6, 12, 6, nil, 12}, {"above the last number, of an old term", 12, 1, 12, 1, nil, 12}, {"far above", 100000, 6, 100000, 6, nil, 100000},
	} {
		for _, c := range []impl.Core{followCore(), coreWith(followCore(), func(c *impl.Core) { c.Lead, c.Vote = 0, 2 }), seekCore()} {
			for _, data := range []string{"", "state", strings.Repeat("s", 30000)} {
				want := coreWith(c, func(c *impl.Core) {
					c.Role, c.Lead, c.Yes, c.Base, c.BaseTerm, c.Log, c.Commit = impl.RlFollow, 2, nil, x.base, x.baseTerm, x.log, x.commit
				})
				wantCore(t, x.name, hearCall(snapMsg(2, 1, 6, x.index, x.term, data)), c, coreAnswer{c: want, said: []impl.Msg{appedMsg(1, 2, 6, x.commit, true)}})
			}
		}
		wantAsItIs(t, x.name, hearCall(snapMsg(2, 1, 6, x.index, x.term, "")), leadCore())
	}
	wantCore(t, "all that it has", hearCall(snapMsg(2, 0, 1, 5, 1, "s")), newCore(0, 3), coreAnswer{
		c:    impl.Core{Id: 0, Peers: 3, Term: 1, Vote: -1, Role: 1, Lead: 2, Base: 5, BaseTerm: 1, Commit: 5},
		said: []impl.Msg{appedMsg(0, 2, 1, 5, true)},
	})
}

// rightCore is a right core by chance, with few terms, and with edges.
func rightCore(r *rand.Rand) impl.Core {
	peers := pick(r, 1, 2, 3, 3, 3, 4, 5, 5)
	c := impl.Core{Id: r.IntN(peers), Peers: peers, Vote: r.IntN(peers+1) - 1, Role: impl.RlFollow, Lead: -1}
	many := pick(r, 0, r.IntN(4), r.IntN(9), r.IntN(9), 55+r.IntN(6))
	c.Base = pick(r, 0, 0, 1+r.IntN(3), 1+r.IntN(20), 100000-many-r.IntN(4))
	term := pick(r, 1, 1, 1+r.IntN(3), 99994)
	if c.Base > 0 {
		c.BaseTerm = term
	}
	for range many {
		term = min(term+pick(r, 0, 0, 0, 0, 0, 1), 99999)
		c.Log = append(c.Log, impl.Entry{Term: term, Data: pick(r, "", "a", "b", strings.Repeat("d", r.IntN(20)))})
	}
	c.Commit = c.Base + pick(r, 0, many, r.IntN(many+1), r.IntN(many+1))
	c.Term = min(term+pick(r, 0, 0, 0, 1, 2), 100000)
	if c.Base == 0 && many == 0 && r.IntN(3) == 0 {
		c.Term = 0
	}
	giveRole(r, &c)
	return c
}

// giveRole makes of a right core that follows one of any Role.
func giveRole(r *rand.Rand, c *impl.Core) {
	switch role := 1 + r.IntN(3); {
	case role == impl.RlSeek && c.Term > 0 && c.Peers > 1:
		c.Role, c.Vote, c.Yes = role, c.Id, []int{c.Id}
		for _, n := range r.Perm(c.Peers) {
			if n != c.Id && (len(c.Yes)+1)*2 <= c.Peers && r.IntN(2) == 0 {
				c.Yes = append(c.Yes, n)
			}
		}
		slices.Sort(c.Yes)
	case role == impl.RlLead && c.Term > 0:
		c.Role, c.Vote, c.Lead = role, c.Id, c.Id
		for range c.Peers {
			last := slowLast(*c)
			match := pick(r, 0, 0, r.IntN(last+1), max(0, last-r.IntN(4)), min(last, c.Base+r.IntN(3)))
			c.Match = append(c.Match, match)
			c.Next = append(c.Next, pick(r, match+1, last+1, match+1+r.IntN(last+1-match), min(last+1, max(match+1, c.Base+r.IntN(3)))))
		}
		c.Match[c.Id], c.Next[c.Id] = slowLast(*c), slowLast(*c)+1
	case r.IntN(2) == 0:
		if lead := r.IntN(c.Peers); lead != c.Id {
			c.Lead = lead
		}
	}
}

// nearMsg is a message by chance that has to do with what the core has.
func nearMsg(r *rand.Rand, c impl.Core) impl.Msg {
	from, term := r.IntN(5), min(max(c.Term+pick(r, 0, 0, 0, 0, 1, 1, 2, -1), 1), 100000)
	if r.IntN(8) > 0 && c.Peers > 1 {
		from = (c.Id + 1 + r.IntN(c.Peers-1)) % c.Peers
	}
	last := slowLast(c)
	index := max(0, pick(r, c.Base, last, last, last+1, c.Commit, c.Base-r.IntN(6), c.Base+r.IntN(len(c.Log)+3), c.Base+r.IntN(len(c.Log)+1), last-r.IntN(5)))
	index = min(index, 100000)
	indexTerm := slowTermAt(c, index)
	if indexTerm < 0 || r.IntN(5) == 0 {
		indexTerm = max(1, term-r.IntN(4))
	}
	indexTerm = min(indexTerm, term)
	if index == 0 {
		indexTerm = 0
	}
	switch pick(r, 1, 2, 3, 3, 3, 3, 4, 4, 5) {
	case impl.MsVote:
		return voteMsg(from, c.Id, term, index, indexTerm)
	case impl.MsVoted:
		return votedMsg(from, c.Id, term, r.IntN(4) > 0)
	case impl.MsApped:
		return appedMsg(from, c.Id, term, index, r.IntN(2) == 0)
	case impl.MsSnap:
		return snapMsg(from, c.Id, term, max(index, 1), max(indexTerm, 1), pick(r, "", "state"))
	}
	var entries []impl.Entry
	least := max(indexTerm, 1)
	for n := index + 1; n <= min(index+r.IntN(5), 100000); n++ {
		least = max(least, min(pick(r, slowTermAt(c, n), slowTermAt(c, n), slowTermAt(c, n), slowTermAt(c, n), least, least+1, term), term))
		entries = append(entries, impl.Entry{Term: least, Data: pick(r, "", "a", "n", "other")})
	}
	return appMsg(from, c.Id, term, index, indexTerm, min(100000, max(0, pick(r, 0, c.Commit+1, last, last+2, c.Base+r.IntN(len(c.Log)+4)))), entries...)
}

// someCoreCall is a call by chance, mostly a message.
func someCoreCall(r *rand.Rand, c impl.Core) coreCall {
	switch r.IntN(12) {
	case 0:
		return electCall()
	case 1:
		return beatCall()
	case 2:
		return proposeCall(pick(r, "", "x", "y", strings.Repeat("d", 900), strings.Repeat("d", 901)))
	case 3:
		return compactCall(c.Base - 2 + r.IntN(len(c.Log)+5))
	case 4:
		m := nearMsg(r, c)
		turnMsg(r, &m)
		return hearCall(m)
	}
	return hearCall(nearMsg(r, c))
}

// whatCame says in words what a call came to, so that a test can tell that all of it came by chance.
func whatCame(call string, c impl.Core, got coreAnswer) string {
	word := strings.Fields(call)[0]
	came := fmt.Sprint(word, c.Role, "->", got.c.Role)
	for i, m := range got.said {
		if i < 1 {
			came += fmt.Sprint(" says ", m.Kind, " ", m.Yes)
		}
	}
	return came
}

func TestCoresByChance(t *testing.T) {
	r := rand.New(rand.NewPCG(16, 2))
	came := map[string]int{}
	for range 60000 {
		c := rightCore(r)
		wantCoreOk(t, "by chance", c, true)
		call := someCoreCall(r, c)
		got := wantCoreWords(t, "by chance", call, c)
		came[whatCame(call.name, c, got)]++
	}
	for _, x := range []string{
		"Elect1->2 says 1 false", "Elect2->2 says 1 false", "Elect1->3", "Elect3->3", "Elect1->1", "Beat1->1", "Beat2->2", "Beat3->3 says 3 false", "Beat3->3 says 5 false", "Beat3->3", "Propose1->1", "Propose2->2", "Propose3->3 says 3 false", "Propose3->3 says 5 false", "Propose3->3", "Compact1->1", "Compact2->2", "Compact3->3",
		"Hear1->1", "Hear1->1 says 2 true", "Hear1->1 says 2 false", "Hear1->1 says 4 true", "Hear1->1 says 4 false", "Hear2->1", "Hear2->1 says 2 true", "Hear2->1 says 2 false", "Hear2->1 says 4 true", "Hear2->1 says 4 false", "Hear2->2", "Hear2->2 says 2 false", "Hear2->2 says 4 false", "Hear2->3 says 3 false",
		"Hear3->1", "Hear3->1 says 2 true", "Hear3->1 says 2 false", "Hear3->1 says 4 true", "Hear3->1 says 4 false", "Hear3->3", "Hear3->3 says 2 false", "Hear3->3 says 4 false", "Hear3->3 says 3 false", "Hear3->3 says 5 false",
	} {
		if came[x] < 5 {
			t.Errorf("%s: %d times", x, came[x])
		}
	}
}

// One core hears and does much, one thing behind the other.
func TestOneCoreThatHearsMuch(t *testing.T) {
	r := rand.New(rand.NewPCG(16, 3))
	for range 400 {
		c := rightCore(r)
		votes := map[int]int{}
		for range 100 {
			c = wantCoreWords(t, "much", someCoreCall(r, c), c).c
			if vote, there := votes[c.Term]; there && vote != -1 && vote != c.Vote {
				t.Fatalf("%s voted for %d in this Term", brief(c), vote)
			}
			votes[c.Term] = c.Vote
		}
	}
}

// turnCore puts something by chance, often at an edge, in the place of a field.
func turnCore(r *rand.Rand, c *impl.Core) {
	number := func() int {
		return pick(r, -2, -1, 0, 1, 2, 3, c.Id, c.Peers, c.Term, c.Base, slowLast(*c), slowLast(*c)+1, slowLast(*c)+2, c.Commit, 100000, 100001, math.MaxInt, math.MinInt)
	}
	list := func(l []int) []int {
		l = slices.Clone(l)
		switch r.IntN(4) {
		case 0:
			return slices.Insert(l, r.IntN(len(l)+1), number())
		case 1:
			if len(l) > 0 {
				return slices.Delete(l, len(l)-1, len(l))
			}
		case 2:
			slices.Reverse(l)
			return l
		}
		if len(l) > 0 {
			l[r.IntN(len(l))] = number()
		}
		return l
	}
	fields := []coreField{idOf, peersOf, termOf, voteOf, roleOf, leadOf, baseOf, baseTermOf, commitOf}
	switch at := r.IntN(len(fields) + 4); at - len(fields) {
	case 0:
		c.Yes = list(c.Yes)
	case 1:
		c.Next = list(c.Next)
	case 2:
		c.Match = list(c.Match)
	case 3:
		c.Log = append(slices.Clone(c.Log), impl.Entry{Term: number()})
	default:
		*fields[at](c) = number()
	}
}

func TestCoreOkAgainstTheWords(t *testing.T) {
	r := rand.New(rand.NewPCG(16, 4))
	right, not := map[int]int{}, 0
	for range 60000 {
		c := rightCore(r)
		for range pick(r, 1, 1, 1, 2, 3) {
			turnCore(r, &c)
		}
		wantCoreOk(t, "turned", c, slowCoreOk(c))
		if slowCoreOk(c) {
			right[c.Role]++
		} else {
			not++
		}
	}
	if min(right[1], right[2], right[3]) < 500 || not < 20000 {
		t.Errorf("%v right, %d not", right, not)
	}
}

// A coreRun is several cores that talk to each other, and all that was ever seen of them; they put no log away where it is wholly kept.
type coreRun struct {
	t       *testing.T
	r       *rand.Rand
	cores   []impl.Core
	net     []impl.Msg
	ever    []impl.Entry
	leaders map[int]int
	votes   map[string]int
	added   int
	wholly  bool
}

func newRun(t *testing.T, r *rand.Rand, peers, term int) *coreRun {
	x := &coreRun{t: t, r: r, leaders: map[int]int{}, votes: map[string]int{}}
	for id := range peers {
		c, ok := impl.CoreOf(id, peers, impl.Wal{Term: term, Vote: -1})
		if !ok {
			t.Fatalf("no core %d of %d", id, peers)
		}
		x.cores = append(x.cores, c)
	}
	return x
}

// do has the core do it, sends what it says, and looks at what it has become.
func (x *coreRun) do(id int, call coreCall) coreAnswer {
	x.t.Helper()
	c := x.cores[id]
	got := wantCoreWords(x.t, "a run", call, c)
	x.cores[id] = got.c
	x.net = append(x.net, got.said...)
	x.look(id, c.Role != impl.RlLead && got.c.Role == impl.RlLead)
	return got
}

// look wants one vote of a server in a Term, one leader of a Term, one entry of a number, and logs that are the same up to where they have the same term.
func (x *coreRun) look(id int, new bool) {
	x.t.Helper()
	c := x.cores[id]
	key := fmt.Sprint(id, " in ", c.Term)
	if vote, there := x.votes[key]; there && vote != -1 && vote != c.Vote {
		x.t.Fatalf("%d voted for %d and %d in Term %d", id, vote, c.Vote, c.Term)
	}
	x.votes[key] = c.Vote
	if lead, there := x.leaders[c.Term]; there && lead != id && c.Role == impl.RlLead {
		x.t.Fatalf("%d and %d lead in Term %d", lead, id, c.Term)
	}
	if c.Role == impl.RlLead {
		x.leaders[c.Term] = id
	}
	for n := c.Base + 1; n <= c.Commit; n++ {
		if n == len(x.ever)+1 {
			x.ever = append(x.ever, c.Log[n-c.Base-1])
		}
		if n > len(x.ever) || x.ever[n-1] != c.Log[n-c.Base-1] {
			x.t.Fatalf("%s has another entry %d than was agreed on: %s", brief(c), n, brief(x.ever))
		}
	}
	if c.Base > len(x.ever) || c.Base > 0 && x.ever[c.Base-1].Term != c.BaseTerm {
		x.t.Fatalf("%s stands on what was not agreed on: %s", brief(c), brief(x.ever))
	}
	if new && (slowLast(c) < len(x.ever) || !slices.Equal(c.Log[:len(x.ever)-c.Base], x.ever[c.Base:])) {
		x.t.Fatalf("%s leads without what was agreed on: %s", brief(c), brief(x.ever))
	}
	for _, o := range x.cores {
		x.lookAtTwo(c, o)
	}
}

func (x *coreRun) lookAtTwo(a, b impl.Core) {
	x.t.Helper()
	least := max(a.Base, b.Base)
	same := false
	for n := min(slowLast(a), slowLast(b)); n > least; n-- {
		one, other := a.Log[n-a.Base-1], b.Log[n-b.Base-1]
		same = same || one.Term == other.Term
		if same && one != other {
			x.t.Fatalf("%s and %s part at %d", brief(a), brief(b), n)
		}
	}
}

// step is one thing by chance; the log is not let grow beyond so many proposals.
func (x *coreRun) step(most int) {
	id := x.r.IntN(len(x.cores))
	c := x.cores[id]
	at := 0
	if len(x.net) > 0 {
		at = x.r.IntN(len(x.net))
	}
	switch n := x.r.IntN(40); {
	case n == 0:
		x.do(id, electCall())
	case n < 3:
		x.do(id, beatCall())
	case n < 8 && x.added < most:
		if lead := slices.IndexFunc(x.cores, func(c impl.Core) bool { return c.Role == impl.RlLead }); lead >= 0 && x.r.IntN(2) == 0 {
			id = lead
		}
		x.added += min(1, x.do(id, proposeCall(fmt.Sprint("entry ", x.added))).number)
	case n == 8 && !x.wholly:
		x.do(id, compactCall(c.Base+x.r.IntN(slowLast(c)-c.Base+2)))
	case n == 9:
		// It falls and rises: what its Wal has is left.
		again, ok := impl.CoreOf(id, len(x.cores), impl.CoreWal(c))
		if !ok {
			x.t.Fatalf("%s does not rise", brief(c))
		}
		x.cores[id] = again
		x.look(id, false)
	case len(x.net) == 0:
	case n < 12:
		x.net = slices.Delete(x.net, at, at+1)
	case n < 14:
		x.deliver(at, true)
	case n < 26:
		x.deliver(at, false)
	default:
		x.deliver(0, false)
	}
}

func (x *coreRun) deliver(at int, stays bool) {
	m := x.net[at]
	if !stays {
		x.net = slices.Delete(x.net, at, at+1)
	}
	text := impl.ShowMsg(m)
	if read, ok := impl.ReadMsg(text); !ok || !sameMsg(read, m) {
		x.t.Fatalf("%s is read as %s", brief(m), brief(read))
	}
	x.do(m.To, hearCall(m))
}

func (x *coreRun) drain() {
	for many := 0; len(x.net) > 0; many++ {
		if many > 3000 {
			x.t.Fatalf("they talk without end: %s", brief(x.net))
		}
		x.deliver(0, false)
	}
}

// best is the first one of those whose log is the furthest.
func (x *coreRun) best() int {
	best := 0
	for id, c := range x.cores {
		b := x.cores[best]
		one, other := slowTermAt(c, slowLast(c)), slowTermAt(b, slowLast(b))
		if one > other || one == other && slowLast(c) > slowLast(b) {
			best = id
		}
	}
	return best
}

// calm is a round in which nothing is lost.
func (x *coreRun) calm() {
	x.drain()
	top, lead := 0, -1
	for _, c := range x.cores {
		top = max(top, c.Term)
	}
	for id, c := range x.cores {
		if c.Term == top && c.Role == impl.RlLead {
			lead = id
		}
	}
	if lead < 0 {
		lead = x.best()
		x.do(lead, electCall())
		x.drain()
	}
	x.do(lead, beatCall())
	x.drain()
}

// wantSettled wants one that leads, all others behind it, and all that they have agreed on.
func (x *coreRun) wantSettled() {
	x.t.Helper()
	lead := slices.IndexFunc(x.cores, func(c impl.Core) bool { return c.Role == impl.RlLead })
	if lead < 0 {
		x.t.Fatalf("nobody leads: %s", brief(x.cores))
	}
	l := x.cores[lead]
	for id, c := range x.cores {
		if c.Term != l.Term || slowLast(c) != slowLast(l) || c.Commit != slowLast(l) || id != lead && (c.Role != impl.RlFollow || c.Lead != lead) {
			x.t.Fatalf("not settled: %s", brief(x.cores))
		}
	}
	if len(x.ever) != l.Commit {
		x.t.Fatalf("%d were agreed on, %s", len(x.ever), brief(l))
	}
}

// Cores that talk to each other, with messages that are lost, late and told twice, and with falls; at last nothing is lost any more, and all come to an end.
func TestRunsOfCores(t *testing.T) {
	r := rand.New(rand.NewPCG(16, 5))
	agreed, snaps := 0, 0
	for run := range 600 {
		x := newRun(t, r, 1+run%5, 0)
		for range 300 {
			x.step(25)
		}
		agreed += len(x.ever)
		for range 6 {
			x.calm()
		}
		x.wantSettled()
		for _, c := range x.cores {
			if c.Base > 0 {
				snaps++
			}
		}
	}
	if agreed < 6000 || snaps < 600 {
		t.Errorf("%d entries were agreed on, %d put a log away", agreed, snaps)
	}
}

// Runs in which logs are full and terms at their end: they need not come to anything, but stay right.
func TestRunsOfCoresAtTheirLimits(t *testing.T) {
	r := rand.New(rand.NewPCG(16, 6))
	full, ended := 0, 0
	for run := range 150 {
		x := newRun(t, r, 1+run%5, pick(r, 0, 99990, 99999))
		x.wholly = r.IntN(2) == 0
		for range 900 {
			x.step(1000)
			if len(x.net) > 100 {
				x.net = x.net[50:]
			}
		}
		for range 3 {
			x.calm()
		}
		for _, c := range x.cores {
			if len(c.Log) == impl.MaxLog {
				full++
			}
			if c.Term == impl.MaxTerm {
				ended++
			}
		}
	}
	if full < 10 || ended < 50 {
		t.Errorf("%d logs were full, %d at MaxTerm", full, ended)
	}
}

// One that has no room for what it is sent says so once, and is not sent it again until the next Beat.
func TestOneWithoutRoomIsNotToldWithoutEnd(t *testing.T) {
	x := newRun(t, rand.New(rand.NewPCG(16, 7)), 3, 0)
	x.do(0, electCall())
	x.drain()
	for n := range 80 {
		if c := x.cores[0]; c.Commit > c.Base {
			x.do(0, compactCall(c.Commit))
		}
		x.do(0, proposeCall(fmt.Sprint("entry ", n)))
		x.drain()
	}
	if slowLast(x.cores[0]) != 81 || slowLast(x.cores[1]) != 60 || slowLast(x.cores[2]) != 60 || x.cores[0].Commit != 60 {
		t.Fatalf("the others have no room: %s", brief(x.cores))
	}
	for id := 1; id < 3; id++ {
		x.do(id, compactCall(x.cores[id].Commit))
	}
	for range 2 {
		x.calm()
	}
	x.wantSettled()
}

// Two logs that part behind one place: the later one is taken over, however far they differ.
func TestALogThatParts(t *testing.T) {
	for first := range 12 {
		for second := range 12 {
			for same := range 6 {
				log := sameEntries(same, 1, "both")
				a, _ := impl.CoreOf(0, 3, impl.Wal{Term: 2, Vote: -1, Entries: append(slices.Clone(log), sameEntries(first, 2, "old")...)})
				b, _ := impl.CoreOf(1, 3, impl.Wal{Term: 3, Vote: -1, Entries: append(slices.Clone(log), sameEntries(second, 3, "new")...)})
				x := newRun(t, rand.New(rand.NewPCG(16, 8)), 3, 0)
				x.cores[0], x.cores[1] = a, b
				best := x.best()
				for range 3 {
					x.calm()
				}
				x.wantSettled()
				wanted := impl.CoreWal(b).Entries
				if best == 0 {
					wanted = impl.CoreWal(a).Entries
				}
				if got := x.cores[2].Log; len(got) < len(wanted) || !slices.Equal(got[:len(wanted)], wanted) {
					t.Fatalf("%d, %d behind %d: %s", first, second, same, brief(x.cores))
				}
			}
		}
	}
}

// spareCore is the core with room behind each list, what stands there, and texts of its own.
func spareCore(c impl.Core) impl.Core {
	c.Log = spareMsg(impl.Msg{Entries: c.Log}).Entries
	for _, l := range []*[]int{&c.Yes, &c.Next, &c.Match} {
		*l = append(slices.Clone(*l), 77, 78)[:len(*l)]
	}
	return c
}

// sameCoreWithRoom asks whether the core, and what stands behind its lists, are as spareCore made them.
func sameCoreWithRoom(a, b impl.Core) bool {
	all := func(c impl.Core) impl.Core {
		c.Log, c.Yes, c.Next, c.Match = c.Log[:len(c.Log)+2], c.Yes[:len(c.Yes)+2], c.Next[:len(c.Next)+2], c.Match[:len(c.Match)+2]
		return c
	}
	return sameCore(all(a), all(b))
}

// spoilNumbers writes over a list, and over the room behind it.
func spoilNumbers(l []int) {
	l = l[:cap(l)]
	for i := range l {
		l[i] = 99
	}
}

// spoilers each write over one list of the answer.
func spoilers(a coreAnswer) []func() {
	l := []func(){func() { spoilEntries(a.c.Log) }, func() { spoilNumbers(a.c.Yes) }, func() { spoilNumbers(a.c.Next) }, func() { spoilNumbers(a.c.Match) }}
	for _, m := range a.said {
		l = append(l, func() { spoilEntries(m.Entries) })
	}
	return l
}

// listsOf are the lists of the answer, each as a text.
func listsOf(a coreAnswer) []string {
	l := []string{fmt.Sprint(a.c.Log), fmt.Sprint(a.c.Yes), fmt.Sprint(a.c.Next), fmt.Sprint(a.c.Match)}
	for _, m := range a.said {
		l = append(l, fmt.Sprint(m.Entries))
	}
	return l
}

func textsInAnswer(a coreAnswer) []string {
	l := textsInMsg(impl.Msg{Entries: a.c.Log})
	for _, m := range a.said {
		l = append(l, textsInMsg(m)...)
	}
	return l
}

// wantApart wants no list of the answer to share memory with another one of it, and no text with another text.
func wantApart(t *testing.T, name string, do func() coreAnswer) {
	t.Helper()
	for i := range spoilers(do()) {
		a := do()
		ahead := listsOf(a)
		spoilers(a)[i]()
		for j, text := range listsOf(a) {
			if j != i && text != ahead[j] {
				t.Fatalf("%s: list %d of the answer shares memory with list %d", name, j, i)
			}
		}
	}
	texts := textsInAnswer(do())
	for i, text := range texts {
		wantNewTexts(t, name, []string{text}, texts[:i])
	}
}

// memoryCalls are calls that hand a core back, change it, and say something, with texts of their own.
func memoryCalls(c impl.Core) ([]coreCall, []string, []impl.Msg) {
	data := strings.Clone("data of a proposal")
	calls := []coreCall{electCall(), beatCall(), proposeCall(data), proposeCall(""), compactCall(-1), compactCall(c.Base + 1), compactCall(c.Commit)}
	var msgs []impl.Msg
	last := slowLast(c)
	from := (c.Id + 1) % max(c.Peers, 1)
	for _, term := range []int{c.Term - 1, c.Term, c.Term + 1} {
		for _, m := range []impl.Msg{
			voteMsg(from, c.Id, term, 99999, term), votedMsg(from, c.Id, term, true), appedMsg(from, c.Id, term, last, true), appedMsg(from, c.Id, term, c.Base, false), appedMsg(from, c.Id, term, last-1, true), snapMsg(from, c.Id, term, last+1, term, "state"), snapMsg(from, c.Id, term, max(last-1, 1), slowTermAt(c, last-1), "state"), snapMsg(from, c.Id, term, 1, 1, "state"),
			appMsg(from, c.Id, term, last, slowTermAt(c, last), last, sameEntries(3, max(term, 1), "new data")...), appMsg(from, c.Id, term, c.Commit, slowTermAt(c, c.Commit), last, sameEntries(4, max(term, 1), "other data")...), appMsg(from, c.Id, term, last+2, max(term, 1), 0, sameEntries(1, max(term, 1), "far")...), {},
		} {
			m = spareMsg(m)
			msgs = append(msgs, m)
			calls = append(calls, hearCall(m))
		}
	}
	texts := []string{data}
	for _, m := range msgs {
		texts = append(texts, textsInMsg(m)...)
	}
	return calls, texts, msgs
}

func TestCoreAnswersNewMemory(t *testing.T) {
	for _, x := range append(someCores(), impl.Core{}, coreWith(leadCore(), func(c *impl.Core) { c.Id = 2 }), coreWith(leadCore(), func(c *impl.Core) { c.Commit = 11 })) {
		calls, texts, msgs := memoryCalls(x)
		kept := make([]impl.Msg, 0, len(msgs))
		for _, m := range msgs {
			kept = append(kept, spareMsg(m))
		}
		for _, call := range calls {
			c := spareCore(x)
			want := asSaid(call, x)
			first, second := call.do(c), call.do(c)
			wantNewTexts(t, call.name, textsInAnswer(first), slices.Concat(textsInAnswer(second), textsInMsg(impl.Msg{Entries: c.Log}), texts))
			for _, spoil := range spoilers(second) {
				spoil()
			}
			if !sameCoreWithRoom(c, spareCore(x)) {
				t.Fatalf("%s wrote into %s, or its answer is part of it: %s", call.name, brief(x), brief(c))
			}
			for i, m := range msgs {
				if with := m.Entries[:len(m.Entries)+2]; !sameMsg(m, kept[i]) || !slices.Equal(with[len(m.Entries):], []impl.Entry{{Term: 77}, {Term: 78}}) {
					t.Fatalf("%s wrote into the message, or its answer is part of it", call.name)
				}
			}
			for _, spoil := range spoilers(coreAnswer{c: c}) {
				spoil()
			}
			if !sameCoreAnswer(first, want) {
				t.Fatalf("%s of %s hangs on its argument, or on another answer: %s", call.name, brief(x), brief(first))
			}
			wantApart(t, call.name, func() coreAnswer { return call.do(spareCore(x)) })
		}
		for i, m := range msgs {
			answer := hearCall(m).do(x)
			spoilEntries(m.Entries)
			if want := asSaid(hearCall(kept[i]), x); !sameCoreAnswer(answer, want) {
				t.Fatalf("Hear hangs on its message: %s", brief(answer))
			}
		}
	}
}

func TestCoreWalAndCoreOfAnswerNewMemory(t *testing.T) {
	for _, x := range someCores() {
		c := spareCore(x)
		impl.CoreOk(c)
		w, other := impl.CoreWal(c), impl.CoreWal(c)
		wantNewTexts(t, "CoreWal", textsInMsg(impl.Msg{Entries: w.Entries}), append(textsInMsg(impl.Msg{Entries: c.Log}), textsInMsg(impl.Msg{Entries: other.Entries})...))
		spoilEntries(other.Entries)
		if !sameCoreWithRoom(c, spareCore(x)) {
			t.Fatalf("CoreWal wrote into %s, or its answer is part of it", brief(x))
		}
		spoilEntries(c.Log)
		if !sameWal(w, slowWalOf(x)) {
			t.Fatalf("CoreWal of %s hangs on its argument: %s", brief(x), brief(w))
		}
		arg := spareWal(slowWalOf(spareCore(x)))
		made, ok := impl.CoreOf(x.Id, x.Peers, arg)
		again, _ := impl.CoreOf(x.Id, x.Peers, arg)
		wantNewTexts(t, "CoreOf", textsInMsg(impl.Msg{Entries: made.Log}), append(textsInMsg(impl.Msg{Entries: arg.Entries}), textsInMsg(impl.Msg{Entries: again.Log})...))
		spoilEntries(again.Log)
		if !ok || !sameWal(withRoom(arg), withRoom(spareWal(slowWalOf(x)))) {
			t.Fatalf("CoreOf wrote into %s, or its answer is part of it", brief(arg))
		}
		spoilEntries(arg.Entries)
		if !sameWal(slowWalOf(made), slowWalOf(x)) {
			t.Fatalf("CoreOf hangs on its argument: %s", brief(made))
		}
	}
}

// Nothing is kept from one call to another: what is asked again is answered again.
func TestCoresAreAskedAgain(t *testing.T) {
	r := rand.New(rand.NewPCG(16, 9))
	for range 2000 {
		c := rightCore(r)
		call := someCoreCall(r, c)
		first := call.do(c)
		for range 3 {
			other := rightCore(r)
			someCoreCall(r, other).do(other)
		}
		if again := call.do(c); !sameCoreAnswer(first, again) {
			t.Fatalf("%s of %s\n= %s\nand then %s", call.name, brief(c), brief(first), brief(again))
		}
	}
}

func TestCoresAnswerAtEveryArgument(t *testing.T) {
	long := strings.Repeat("a", 100000)
	for _, c := range append(someCores(), impl.Core{}) {
		for _, n := range []int{math.MinInt, -1, 0, math.MaxInt} {
			wantCoreWords(t, "anywhere", compactCall(n), c)
			wantCoreWords(t, "far too long", proposeCall(long), c)
			for kind := -1; kind <= 8; kind++ {
				wantCoreWords(t, "far too much", hearCall(impl.Msg{Kind: kind, From: n, To: c.Id, Term: n, Index: n, IndexTerm: n, Commit: n, Yes: true, Entries: sameEntries(3, n, "x"), Data: "x"}), c)
				wantCoreWords(t, "far too much", hearCall(impl.Msg{Kind: kind, From: (c.Id + 1) % 5, To: c.Id, Term: c.Term, Index: n, IndexTerm: n, Commit: n}), c)
				wantCoreWords(t, "far too long", hearCall(impl.Msg{Kind: kind, From: (c.Id + 1) % 5, To: c.Id, Term: c.Term, Index: 1, IndexTerm: 1, Data: long}), c)
			}
		}
		wantCoreWords(t, "far too many", hearCall(appMsg((c.Id+1)%5, c.Id, 100000, c.Base, c.BaseTerm, 0, make([]impl.Entry, 100000)...)), c)
	}
	wantCoreOk(t, "far too many", coreWith(followCore(), func(c *impl.Core) { c.Log = make([]impl.Entry, 100000) }), false)
}
