package tests

import (
	"math"
	"math/rand/v2"
	"slices"
	"strings"
	"testing"

	"loop.example/g00360/impl"
)

// Promise 15: ReadMsg of ShowMsg of a message that is MsgOk is it; a text in which one byte is another one is not taken.

// sumAhead is the text with its sum ahead of it.
func sumAhead(body string) string {
	return fourBytes(slowCrc(body)) + body
}

// msgImage is what the text of a message is put together of behind its sum, right or not.
func msgImage(m impl.Msg) image {
	var x image
	yes := 0
	if m.Yes {
		yes = 1
	}
	x.addVars(m.Kind, m.From, m.To, m.Term, m.Index, m.IndexTerm, m.Commit, yes)
	x.addCount(len(m.Entries))
	for _, e := range m.Entries {
		x.addVars(e.Term)
		x.addSized(e.Data)
	}
	x.add(m.Data)
	return x
}

// yesAt is the place of Yes among the parts.
const yesAt = 7

// rawMsg is how a message would be shown, right or not.
func rawMsg(m impl.Msg) string {
	return sumAhead(msgImage(m).text())
}

// msgShows asks whether a text can be made of it, whatever that is read as: no number is below 0.
func msgShows(m impl.Msg) bool {
	least := min(m.Kind, m.From, m.To, m.Term, m.Index, m.IndexTerm, m.Commit)
	for _, e := range m.Entries {
		least = min(least, e.Term)
	}
	return least >= 0
}

func sameMsg(a, b impl.Msg) bool {
	return a.Kind == b.Kind && a.From == b.From && a.To == b.To && a.Term == b.Term && a.Index == b.Index && a.IndexTerm == b.IndexTerm && a.Commit == b.Commit && a.Yes == b.Yes && slices.Equal(a.Entries, b.Entries) && a.Data == b.Data
}

// slowNamed is what the kind names of the message.
func slowNamed(m impl.Msg) impl.Msg {
	n := impl.Msg{Kind: m.Kind, From: m.From, To: m.To}
	for _, name := range namedFields(m.Kind) {
		switch name {
		case "Term":
			n.Term = m.Term
		case "Index":
			n.Index = m.Index
		case "IndexTerm":
			n.IndexTerm = m.IndexTerm
		case "Commit":
			n.Commit = m.Commit
		case "Yes":
			n.Yes = m.Yes
		case "Entries":
			n.Entries = m.Entries
		case "Data":
			n.Data = m.Data
		}
	}
	return n
}

// namedFields is the table of the document.
func namedFields(kind int) []string {
	return map[int][]string{
		1: {"Term", "Index", "IndexTerm"},
		2: {"Term", "Yes"},
		3: {"Term", "Index", "IndexTerm", "Commit", "Entries"},
		4: {"Term", "Yes", "Index"},
		5: {"Term", "Index", "IndexTerm", "Data"},
		6: {"Index", "Data"},
		7: {"Index", "Data"},
	}[kind]
}

func slowBatchOk(m impl.Msg) bool {
	for i, e := range m.Entries {
		if len(e.Data) > 900 || e.Term < 1 || e.Term < m.IndexTerm || e.Term > m.Term || i > 0 && e.Term < m.Entries[i-1].Term {
			return false
		}
	}
	return len(m.Entries) <= 4 && m.Index+len(m.Entries) <= 100000
}

func slowMsgOk(m impl.Msg) bool {
	if !sameMsg(m, slowNamed(m)) {
		return false
	}
	server := func(n int) bool { return within(n, 0, 4) }
	client := func(n int) bool { return within(n, 11, 14) }
	servers := server(m.From) && server(m.To) && m.From != m.To && within(m.Term, 1, 100000)
	place := (m.Index == 0 && m.IndexTerm == 0 || within(m.Index, 1, 100000) && within(m.IndexTerm, 1, 100000)) && m.IndexTerm <= m.Term
	_, op := slowReadOp(m.Data)
	_, answer := slowReadAnswer(m.Data)
	switch m.Kind {
	case 1:
		return servers && place
	case 2:
		return servers
	case 3:
		return servers && place && within(m.Commit, 0, 100000) && slowBatchOk(m)
	case 4:
		return servers && within(m.Index, 0, 100000)
	case 5:
		return servers && within(m.Index, 1, 100000) && within(m.IndexTerm, 1, m.Term) && len(m.Data) <= 30000
	case 6:
		return client(m.From) && server(m.To) && within(m.Index, 1, 1000000) && op
	case 7:
		return server(m.From) && client(m.To) && within(m.Index, 1, 1000000) && answer
	}
	return false
}

// slowReadMsg takes the parts one by one, and the text only if it is that of the right message that they come to.
func slowReadMsg(s string) (impl.Msg, bool) {
	if len(s) < 4 || sumAhead(s[4:]) != s {
		return impl.Msg{}, false
	}
	c := slowCursor{left: s[4:]}
	var n [8]int
	for i := range n {
		n[i] = c.number()
	}
	m := impl.Msg{Kind: n[0], From: n[1], To: n[2], Term: n[3], Index: n[4], IndexTerm: n[5], Commit: n[6], Yes: n[yesAt] == 1}
	c.times(func() {
		term := c.number()
		m.Entries = append(m.Entries, impl.Entry{Term: term, Data: c.text()})
	})
	m.Data = c.left
	if c.lacks || !slowMsgOk(m) || rawMsg(m) != s {
		return impl.Msg{}, false
	}
	return m, true
}

// wantMsg wants the message to be right and shown as this text, and the text read as the message.
func wantMsg(t *testing.T, name string, m impl.Msg, want string) {
	t.Helper()
	if !impl.MsgOk(m) {
		t.Fatalf("%s: MsgOk(%s) = false", name, brief(m))
	}
	if s := impl.ShowMsg(m); s != want {
		t.Fatalf("%s: ShowMsg(%s)\n= %s\nwant %s", name, brief(m), brief(s), brief(want))
	}
	if got, ok := impl.ReadMsg(want); !ok || !sameMsg(got, m) {
		t.Fatalf("%s: ReadMsg(%s)\n= %s, %v\nwant %s", name, brief(want), brief(got), ok, brief(m))
	}
	if said, ok := slowReadMsg(want); !ok || !sameMsg(said, m) || !slowMsgOk(m) || rawMsg(m) != want {
		t.Fatalf("%s: the words read %s\nas %s, %v, and show %s\nas %s", name, brief(want), brief(said), ok, brief(m), brief(rawMsg(m)))
	}
}

// wantNoMsg wants a text that no message is read from.
func wantNoMsg(t *testing.T, name, s string) {
	t.Helper()
	if got, ok := impl.ReadMsg(s); ok || !sameMsg(got, impl.Msg{}) {
		t.Fatalf("%s: ReadMsg(%s)\n= %s, %v", name, brief(s), brief(got), ok)
	}
	if said, ok := slowReadMsg(s); ok {
		t.Fatalf("%s: the words read %s\nas %s, %v", name, brief(s), brief(said), ok)
	}
}

// wantMsgOk wants the message shown and read back where it is right; else shown as nothing, and what would be its text not read.
func wantMsgOk(t *testing.T, name string, m impl.Msg, right bool) {
	t.Helper()
	if slowMsgOk(m) != right {
		t.Fatalf("%s: is %s right? The words say %v", name, brief(m), !right)
	}
	if right {
		wantMsg(t, name, m, rawMsg(m))
		return
	}
	if impl.MsgOk(m) {
		t.Fatalf("%s: MsgOk(%s) = true", name, brief(m))
	}
	if s := impl.ShowMsg(m); s != "" {
		t.Fatalf("%s: ShowMsg(%s)\n= %s", name, brief(m), brief(s))
	}
	if msgShows(m) {
		wantNoMsg(t, name, rawMsg(m))
	}
}

// wantMsgWords wants the text read as the words say, and what is read shown as the text again.
func wantMsgWords(t *testing.T, name, s string) bool {
	t.Helper()
	said, right := slowReadMsg(s)
	got, ok := impl.ReadMsg(s)
	if ok != right || !sameMsg(got, said) {
		t.Fatalf("%s: ReadMsg(%s)\n= %s, %v\nwant %s, %v", name, brief(s), brief(got), ok, brief(said), right)
	}
	if ok && impl.ShowMsg(got) != s {
		t.Fatalf("%s: ReadMsg(%s)\n= %s, that is shown as %s", name, brief(s), brief(got), brief(impl.ShowMsg(got)))
	}
	return ok
}

// The messages of each kind, from the one to the other.

func voteMsg(from, to, term, index, indexTerm int) impl.Msg {
	return impl.Msg{Kind: impl.MsVote, From: from, To: to, Term: term, Index: index, IndexTerm: indexTerm}
}

func votedMsg(from, to, term int, yes bool) impl.Msg {
	return impl.Msg{Kind: impl.MsVoted, From: from, To: to, Term: term, Yes: yes}
}

func appMsg(from, to, term, index, indexTerm, commit int, entries ...impl.Entry) impl.Msg {
	return impl.Msg{Kind: impl.MsApp, From: from, To: to, Term: term, Index: index, IndexTerm: indexTerm, Commit: commit, Entries: entries}
}

func appedMsg(from, to, term, index int, yes bool) impl.Msg {
	return impl.Msg{Kind: impl.MsApped, From: from, To: to, Term: term, Index: index, Yes: yes}
}

func snapMsg(from, to, term, index, indexTerm int, data string) impl.Msg {
	return impl.Msg{Kind: impl.MsSnap, From: from, To: to, Term: term, Index: index, IndexTerm: indexTerm, Data: data}
}

func callMsg(from, to, index int, data string) impl.Msg {
	return impl.Msg{Kind: impl.MsCall, From: from, To: to, Index: index, Data: data}
}

func toldMsg(from, to, index int, data string) impl.Msg {
	return impl.Msg{Kind: impl.MsTold, From: from, To: to, Index: index, Data: data}
}

const flushText = "\x07\x00\x00\x00"
const toldText = "\x00\x01\x00"

func TestMsgConstants(t *testing.T) {
	got := []int{impl.MaxBatch, impl.ClientBase, impl.MsVote, impl.MsVoted, impl.MsApp, impl.MsApped, impl.MsSnap, impl.MsCall, impl.MsTold}
	if want := []int{4, 10, 1, 2, 3, 4, 5, 6, 7}; !slices.Equal(got, want) {
		t.Errorf("%v, want %v", got, want)
	}
}

// The sums here were made by another program.
func TestMsgTexts(t *testing.T) {
	long := strings.Repeat("d", 900)
	for _, c := range []struct {
		m    impl.Msg
		want string
	}{
		{voteMsg(0, 1, 1, 0, 0), "\xc8\xe8\xf9\x3a" + "\x01\x00\x01\x01\x00\x00\x00\x00\x00"},
		{voteMsg(2, 3, 300, 127, 128), "\x23\x3a\x06\x7f" + "\x01\x02\x03\xac\x02\x7f\x80\x01\x00\x00\x00"},
		{voteMsg(4, 0, 100000, 100000, 100000), "\xa9\xe6\x47\x23" + "\x01\x04\x00\xa0\x8d\x06\xa0\x8d\x06\xa0\x8d\x06\x00\x00\x00"},
		{votedMsg(1, 0, 3, true), "\x38\x56\x9c\x48" + "\x02\x01\x00\x03\x00\x00\x00\x01\x00"},
		{votedMsg(0, 4, 100000, false), "\x79\xc9\x93\x4f" + "\x02\x00\x04\xa0\x8d\x06\x00\x00\x00\x00\x00"},
		{appMsg(0, 1, 1, 0, 0, 0), "\x25\x79\x23\x5b" + "\x03\x00\x01\x01\x00\x00\x00\x00\x00"},
		{appMsg(3, 2, 7, 128, 5, 300), "\xdc\xf7\x94\x6c" + "\x03\x03\x02\x07\x80\x01\x05\xac\x02\x00\x00"},
		{appMsg(4, 0, 100000, 0, 0, 100000), "\x6d\xc5\x30\xcc" + "\x03\x04\x00\xa0\x8d\x06\x00\x00\xa0\x8d\x06\x00\x00"},
		{appMsg(0, 1, 1, 0, 0, 0, impl.Entry{Term: 1}), "\x1d\x4e\x79\x2c" + "\x03\x00\x01\x01\x00\x00\x00\x00\x01\x01\x00"},
		{appMsg(0, 1, 2, 0, 0, 0, impl.Entry{Term: 1}, impl.Entry{Term: 2, Data: "abc"}), "\xda\x7f\xc3\xbf" + "\x03\x00\x01\x02\x00\x00\x00\x00\x02\x01\x00\x02\x03abc"},
		{appMsg(1, 4, 300, 9, 3, 8, impl.Entry{Term: 3, Data: "a"}, impl.Entry{Term: 3}, impl.Entry{Term: 128, Data: "\x00\xff"}, impl.Entry{Term: 300, Data: flushText}),
			"\x4a\x86\x14\xc8" + "\x03\x01\x04\xac\x02\x09\x03\x08\x00\x04" + "\x03\x01a" + "\x03\x00" + "\x80\x01\x02\x00\xff" + "\xac\x02\x04\x07\x00\x00\x00"},
		{appMsg(0, 1, 100000, 99999, 100000, 100000, impl.Entry{Term: 100000, Data: long}), "\xb1\x97\x28\xb4" + "\x03\x00\x01\xa0\x8d\x06\x9f\x8d\x06\xa0\x8d\x06\xa0\x8d\x06\x00\x01" + "\xa0\x8d\x06\x84\x07" + long},
		{appedMsg(1, 0, 3, 0, false), "\x18\xaa\x1c\x6d" + "\x04\x01\x00\x03\x00\x00\x00\x00\x00"},
		{appedMsg(3, 2, 128, 300, true), "\x3d\xc4\xd7\xd1" + "\x04\x03\x02\x80\x01\xac\x02\x00\x00\x01\x00"},
		{appedMsg(0, 4, 100000, 100000, true), "\xa0\x20\xdb\x2e" + "\x04\x00\x04\xa0\x8d\x06\xa0\x8d\x06\x00\x00\x01\x00"},
		{snapMsg(0, 1, 1, 1, 1, ""), "\xf3\x73\xfe\x1d" + "\x05\x00\x01\x01\x01\x01\x00\x00\x00"},
		{snapMsg(2, 0, 9, 300, 8, "state"), "\x16\x8d\x44\xbd" + "\x05\x02\x00\x09\xac\x02\x08\x00\x00\x00" + "state"},
		{snapMsg(4, 3, 100000, 100000, 100000, "\x00\xff\x80"), "\x24\xac\xaf\xa3" + "\x05\x04\x03\xa0\x8d\x06\xa0\x8d\x06\xa0\x8d\x06\x00\x00\x00" + "\x00\xff\x80"},
		{callMsg(11, 4, 1, flushText), "\x78\x66\xc3\xff" + "\x06\x0b\x04\x00\x01\x00\x00\x00\x00" + flushText},
		{callMsg(14, 0, 1000000, "\x04\x01a\x00\x00"+oneBlock), "\x40\x98\x10\xe7" + "\x06\x0e\x00\x00\xc0\x84\x3d\x00\x00\x00\x00" + "\x04\x01a\x00\x00" + oneBlock},
		{callMsg(12, 2, 300, "\x01\x00\x32\xfa\x01"), "\x47\x56\xf7\xeb" + "\x06\x0c\x02\x00\xac\x02\x00\x00\x00\x00" + "\x01\x00\x32\xfa\x01"},
		{toldMsg(0, 14, 1, toldText), "\x11\x5c\x63\xaf" + "\x07\x00\x0e\x00\x01\x00\x00\x00\x00" + toldText},
		{toldMsg(4, 11, 1000000, "\x04\xa0\x8d\x06"+farVar+"\x00\xff"), "\xe7\x69\x01\xee" + "\x07\x04\x0b\x00\xc0\x84\x3d\x00\x00\x00\x00" + "\x04\xa0\x8d\x06" + farVar + "\x00\xff"},
		{toldMsg(3, 13, 127, "\x00\x05\xfa\x01\x02\x00\x03\x01"), "\xe5\x1c\x1e\x4e" + "\x07\x03\x0d\x00\x7f\x00\x00\x00\x00" + "\x00\x05\xfa\x01\x02\x00\x03\x01"},
	} {
		wantMsg(t, "by hand", c.m, c.want)
	}
}

// plainMsgs has right messages of each kind, with and without what a kind may have.
func plainMsgs() []impl.Msg {
	return []impl.Msg{
		voteMsg(0, 1, 7, 5, 3), voteMsg(4, 0, 1, 0, 0), votedMsg(1, 0, 7, true), votedMsg(0, 4, 7, false),
		appMsg(0, 1, 7, 5, 3, 4), appMsg(2, 1, 7, 0, 0, 0), appMsg(0, 3, 7, 5, 3, 9, entriesOf(3, 5, 7)...), appMsg(4, 2, 7, 0, 0, 1, entriesOf(1, 1, 2, 6)...),
		appedMsg(1, 0, 7, 0, false), appedMsg(3, 4, 7, 200, true), snapMsg(0, 1, 7, 5, 3, "state"), snapMsg(4, 1, 7, 5, 7, ""),
		callMsg(11, 0, 1, flushText), callMsg(14, 4, 300, opTexts().raw(writeOp("cpu", pointsAt(10, 1, 20, -1)))), toldMsg(0, 11, 1, toldText), toldMsg(4, 14, 300, "\x04\x05\x07told"),
	}
}

// sampleMsgs are short, with Vars of several bytes.
func sampleMsgs() []impl.Msg {
	return append(plainMsgs(), voteMsg(2, 3, 100000, 99999, 128), votedMsg(3, 2, 128, true), appMsg(1, 0, 300, 127, 128, 100000, impl.Entry{Term: 128, Data: "\x80"}, impl.Entry{Term: 300}), appedMsg(2, 0, 16384, 16383, true),
		snapMsg(3, 0, 300, 128, 129, "\x00\x01\x80\xff"), callMsg(12, 3, 1000000, opTexts().raw(readOp("cpu", 1, 300))), toldMsg(2, 13, 16384, answerTexts().raw(impl.Answer{Code: 2, Index: 130, Mark: 7, Data: "zz"})))
}

// A msgCase is a Msg and whether it is MsgOk.
type msgCase struct {
	name string
	m    impl.Msg
	want bool
}

// A msgField is a number of a message.
type msgField func(m *impl.Msg) *int

func fieldTerm(m *impl.Msg) *int      { return &m.Term }
func fieldIndex(m *impl.Msg) *int     { return &m.Index }
func fieldIndexTerm(m *impl.Msg) *int { return &m.IndexTerm }
func fieldCommit(m *impl.Msg) *int    { return &m.Commit }

// fieldCases has the field at both edges, one past them, and far beyond.
func fieldCases(name string, m impl.Msg, of msgField, least, most int) []msgCase {
	var l []msgCase
	for _, n := range []int{math.MinInt, -1 << 32, least - 2, least - 1, least, least + 1, (least + most) / 2, most - 1, most, most + 1, most + 2, -1, 0, 1 << 32, 1<<32 + least, impl.MaxVar, impl.MaxVar + 1, 1<<48 + least, math.MaxInt} {
		x := m
		*of(&x) = n
		l = append(l, msgCase{name + " " + impl.Dec(max(n, 0)), x, within(n, least, most)})
	}
	return l
}

func serverCases() []msgCase {
	one := impl.Entry{Term: 5, Data: "e"}
	return slices.Concat(
		fieldCases("MsVote Term", voteMsg(0, 1, 7, 5, 3), fieldTerm, 3, 100000), fieldCases("MsVote Term at no place", voteMsg(0, 1, 7, 0, 0), fieldTerm, 1, 100000),
		fieldCases("MsVote Index", voteMsg(0, 1, 7, 5, 3), fieldIndex, 1, 100000), fieldCases("MsVote Index without a term", voteMsg(0, 1, 7, 5, 0), fieldIndex, 0, 0),
		fieldCases("MsVote IndexTerm", voteMsg(0, 1, 7, 5, 3), fieldIndexTerm, 1, 7), fieldCases("MsVote IndexTerm up to MaxTerm", voteMsg(0, 1, 100000, 5, 3), fieldIndexTerm, 1, 100000), fieldCases("MsVote IndexTerm without an index", voteMsg(0, 1, 7, 0, 3), fieldIndexTerm, 0, 0),
		fieldCases("MsVoted Term", votedMsg(0, 1, 7, true), fieldTerm, 1, 100000), fieldCases("MsVoted Term without Yes", votedMsg(0, 1, 7, false), fieldTerm, 1, 100000),
		fieldCases("MsApp Term", appMsg(0, 1, 7, 5, 3, 4), fieldTerm, 3, 100000), fieldCases("MsApp Term at no place", appMsg(0, 1, 7, 0, 0, 4), fieldTerm, 1, 100000), fieldCases("MsApp Term above an entry's", appMsg(0, 1, 7, 5, 3, 4, one), fieldTerm, 5, 100000),
		fieldCases("MsApp Index", appMsg(0, 1, 7, 5, 3, 4), fieldIndex, 1, 100000), fieldCases("MsApp Index without a term", appMsg(0, 1, 7, 5, 0, 4), fieldIndex, 0, 0),
		fieldCases("MsApp Index with an entry", appMsg(0, 1, 7, 5, 3, 4, one), fieldIndex, 1, 99999), fieldCases("MsApp Index with four", appMsg(0, 1, 7, 5, 3, 4, one, one, one, one), fieldIndex, 1, 99996),
		fieldCases("MsApp IndexTerm", appMsg(0, 1, 7, 5, 3, 4), fieldIndexTerm, 1, 7), fieldCases("MsApp IndexTerm up to MaxTerm", appMsg(0, 1, 100000, 5, 3, 4), fieldIndexTerm, 1, 100000), fieldCases("MsApp IndexTerm up to an entry's", appMsg(0, 1, 7, 5, 3, 4, one), fieldIndexTerm, 1, 5),
		fieldCases("MsApp IndexTerm without an index", appMsg(0, 1, 7, 0, 3, 4), fieldIndexTerm, 0, 0), fieldCases("MsApp Commit", appMsg(0, 1, 7, 5, 3, 4), fieldCommit, 0, 100000), fieldCases("MsApp Commit with an entry", appMsg(0, 1, 7, 0, 0, 4, one), fieldCommit, 0, 100000),
		fieldCases("MsApped Term", appedMsg(0, 1, 7, 5, true), fieldTerm, 1, 100000), fieldCases("MsApped Term without Yes", appedMsg(0, 1, 7, 5, false), fieldTerm, 1, 100000), fieldCases("MsApped Index", appedMsg(0, 1, 7, 5, true), fieldIndex, 0, 100000), fieldCases("MsApped Index without Yes", appedMsg(0, 1, 7, 5, false), fieldIndex, 0, 100000),
		fieldCases("MsSnap Term", snapMsg(0, 1, 7, 5, 3, "s"), fieldTerm, 3, 100000), fieldCases("MsSnap Index", snapMsg(0, 1, 7, 5, 3, "s"), fieldIndex, 1, 100000), fieldCases("MsSnap IndexTerm", snapMsg(0, 1, 7, 5, 3, "s"), fieldIndexTerm, 1, 7), fieldCases("MsSnap IndexTerm up to MaxTerm", snapMsg(0, 1, 100000, 5, 3, ""), fieldIndexTerm, 1, 100000),
	)
}

func clientCases() []msgCase {
	return append(fieldCases("MsCall Index", callMsg(11, 0, 5, flushText), fieldIndex, 1, 1000000), fieldCases("MsTold Index", toldMsg(0, 11, 5, toldText), fieldIndex, 1, 1000000)...)
}

func TestMsgsAtTheEdges(t *testing.T) {
	right, not := 0, 0
	for _, c := range append(serverCases(), clientCases()...) {
		wantMsgOk(t, c.name, c.m, c.want)
		if c.want {
			right++
		} else {
			not++
		}
	}
	for _, m := range sampleMsgs() {
		wantMsgOk(t, "right", m, true)
	}
	if right < 150 || not < 300 {
		t.Errorf("%d right, %d not", right, not)
	}
}

// A msgTurn makes a field not zero.
type msgTurn struct {
	field string
	do    func(m *impl.Msg)
}

func msgTurns() []msgTurn {
	var l []msgTurn
	for _, n := range []int{1, 2, -1, 100000, 100001, math.MaxInt, math.MinInt} {
		l = append(l, msgTurn{"Term", func(m *impl.Msg) { m.Term = n }}, msgTurn{"Index", func(m *impl.Msg) { m.Index = n }}, msgTurn{"IndexTerm", func(m *impl.Msg) { m.IndexTerm = n }}, msgTurn{"Commit", func(m *impl.Msg) { m.Commit = n }})
	}
	for _, entries := range [][]impl.Entry{{{}}, {{Term: 1}}, {{Term: 7, Data: "e"}}, entriesOf(1, 2, 3, 4), sameEntries(5, 1, ""), sameEntries(1, 1, strings.Repeat("d", 901))} {
		l = append(l, msgTurn{"Entries", func(m *impl.Msg) { m.Entries = entries }})
	}
	for _, data := range []string{"\x00", "d", flushText, toldText, strings.Repeat("d", 900), strings.Repeat("d", 30001)} {
		l = append(l, msgTurn{"Data", func(m *impl.Msg) { m.Data = data }})
	}
	return append(l, msgTurn{"Yes", func(m *impl.Msg) { m.Yes = true }})
}

// A field that the kind does not name has to be zero, whatever would be right for another kind.
func TestMsgsWithAFieldThatTheirKindDoesNotName(t *testing.T) {
	turned := map[int]int{}
	for _, m := range plainMsgs() {
		for _, turn := range msgTurns() {
			if slices.Contains(namedFields(m.Kind), turn.field) {
				continue
			}
			x := m
			turn.do(&x)
			wantMsgOk(t, "with "+turn.field, x, false)
			turned[m.Kind]++
		}
	}
	for kind := 1; kind <= 7; kind++ {
		if turned[kind] < 13 {
			t.Errorf("kind %d: %d turns", kind, turned[kind])
		}
	}
	empty := appMsg(0, 1, 7, 5, 3, 4)
	empty.Entries = []impl.Entry{}
	wantMsg(t, "a list that is empty and not nil", empty, rawMsg(appMsg(0, 1, 7, 5, 3, 4)))
	none := votedMsg(0, 1, 7, true)
	none.Entries = []impl.Entry{}
	wantMsg(t, "a list that is empty and not nil, where none is named", none, rawMsg(votedMsg(0, 1, 7, true)))
}

// Each kind with each choice of fields that are there and that are zero.
func TestMsgsOfAllChoicesOfFields(t *testing.T) {
	right := map[int]int{}
	for kind := -1; kind <= 9; kind++ {
		for choice := range 128 {
			m := impl.Msg{Kind: kind, From: 0, To: 1}
			has := func(bit int) bool { return choice>>bit&1 == 1 }
			if kind == impl.MsCall {
				m.From = 11
			}
			if kind == impl.MsTold {
				m.To = 11
			}
			for bit, of := range []msgField{fieldTerm, fieldIndex, fieldIndexTerm, fieldCommit} {
				if has(bit) {
					*of(&m) = []int{7, 5, 3, 4}[bit]
				}
			}
			m.Yes = has(4)
			if has(5) {
				m.Entries = entriesOf(5)
			}
			if has(6) {
				m.Data = flushText
			}
			wantMsgOk(t, "a choice", m, slowMsgOk(m))
			if impl.MsgOk(m) {
				right[kind]++
			}
		}
	}
	for kind := -1; kind <= 9; kind++ {
		if want := map[int]int{1: 2, 2: 2, 3: 8, 4: 4, 5: 2, 6: 1, 7: 0}[kind]; right[kind] != want {
			t.Errorf("kind %d: %d are right, want %d", kind, right[kind], want)
		}
	}
}

// From and To of each sort, for each kind.
func TestMsgEnds(t *testing.T) {
	right := map[int]int{}
	for _, m := range plainMsgs() {
		for _, from := range []int{math.MinInt, -1, 0, 1, 2, 3, 4, 5, 6, 9, 10, 11, 12, 13, 14, 15, 16, 128, 256, 1 << 32, 1<<32 + 11, impl.MaxVar, math.MaxInt} {
			for _, to := range []int{math.MinInt, -1, 0, 1, 2, 3, 4, 5, 6, 9, 10, 11, 12, 13, 14, 15, 16, 128, 256, 1 << 32, 1<<32 + 11, impl.MaxVar, math.MaxInt} {
				x := m
				x.From, x.To = from, to
				want := within(from, 0, 4) && within(to, 0, 4) && from != to
				switch m.Kind {
				case impl.MsCall:
					want = within(from, 11, 14) && within(to, 0, 4)
				case impl.MsTold:
					want = within(from, 0, 4) && within(to, 11, 14)
				}
				wantMsgOk(t, "from and to", x, want)
				if want {
					right[m.Kind]++
				}
			}
		}
	}
	if right[impl.MsVote] != 2*20 || right[impl.MsCall] != 2*20 || right[impl.MsTold] != 2*20 {
		t.Errorf("%v are right", right)
	}
	for _, c := range []msgCase{
		{"two servers", voteMsg(0, 4, 1, 0, 0), true}, {"the same server twice", voteMsg(3, 3, 1, 0, 0), false}, {"a server that is none", voteMsg(0, 5, 1, 0, 0), false}, {"none to a server", voteMsg(-1, 0, 1, 0, 0), false},
		{"a client to a server", voteMsg(11, 0, 1, 0, 0), false}, {"a server to a client", voteMsg(0, 11, 1, 0, 0), false}, {"two clients", votedMsg(11, 12, 1, true), false},
		{"a client calls", callMsg(11, 0, 1, flushText), true}, {"a server calls a client", callMsg(0, 11, 1, flushText), false}, {"a server calls a server", callMsg(0, 1, 1, flushText), false}, {"a client calls a client", callMsg(11, 12, 1, flushText), false}, {"client 0 calls", callMsg(10, 0, 1, flushText), false}, {"client 5 calls", callMsg(15, 0, 1, flushText), false},
		{"a client is told", toldMsg(0, 11, 1, toldText), true}, {"a client tells a server", toldMsg(11, 0, 1, toldText), false}, {"a server tells a server", toldMsg(0, 1, 1, toldText), false}, {"a client tells a client", toldMsg(12, 11, 1, toldText), false}, {"client 0 is told", toldMsg(0, 10, 1, toldText), false}, {"client 5 is told", toldMsg(0, 15, 1, toldText), false},
	} {
		wantMsgOk(t, c.name, c.m, c.want)
	}
}

func TestMsgKindsThatAreNone(t *testing.T) {
	for _, m := range append(sampleMsgs(), impl.Msg{}, impl.Msg{To: 1}, impl.Msg{From: 1, Term: 1}, impl.Msg{From: 11, Index: 1}) {
		for _, kind := range []int{math.MinInt, -1 << 32, -7, -3, -1, 0, 8, 9, 10, 127, 128, 129, 256, 257, 1<<16 + 1, 1<<32 + 1, 1<<32 + 6, impl.MaxVar, math.MaxInt} {
			x := m
			x.Kind = kind
			wantMsgOk(t, "a kind that is none", x, false)
		}
		// What is right for one kind is seldom right for another.
		for kind := 1; kind <= 7; kind++ {
			x := m
			x.Kind = kind
			wantMsgOk(t, "another kind", x, slowMsgOk(x))
		}
	}
}

// msgFaults make each right message one that is not, alone and together.
func msgFaults() []msgTurn {
	return []msgTurn{
		{"kind 0", func(m *impl.Msg) { m.Kind = 0 }}, {"kind 8", func(m *impl.Msg) { m.Kind = 8 }}, {"From -1", func(m *impl.Msg) { m.From = -1 }}, {"From 5", func(m *impl.Msg) { m.From = 5 }}, {"To 10", func(m *impl.Msg) { m.To = 10 }}, {"To 15", func(m *impl.Msg) { m.To = 15 }},
		{"Term -1", func(m *impl.Msg) { m.Term = -1 }}, {"Term 100001", func(m *impl.Msg) { m.Term = 100001 }}, {"Index -1", func(m *impl.Msg) { m.Index = -1 }}, {"Index 1000001", func(m *impl.Msg) { m.Index = 1000001 }}, {"IndexTerm -1", func(m *impl.Msg) { m.IndexTerm = -1 }}, {"IndexTerm 100001", func(m *impl.Msg) { m.IndexTerm = 100001 }},
		{"Commit -1", func(m *impl.Msg) { m.Commit = -1 }}, {"Commit 100001", func(m *impl.Msg) { m.Commit = 100001 }}, {"five Entries", func(m *impl.Msg) { m.Entries = sameEntries(5, 7, "") }}, {"a term 0", func(m *impl.Msg) { m.Entries = entriesOf(0) }}, {"terms that fall", func(m *impl.Msg) { m.Entries = entriesOf(7, 6) }}, {"Data too long", func(m *impl.Msg) { m.Data = strings.Repeat("\x00", 30001) }},
	}
}

func TestMsgsWithSeveralFaults(t *testing.T) {
	r := rand.New(rand.NewPCG(15, 1))
	for _, m := range plainMsgs() {
		for _, a := range msgFaults() {
			for _, b := range msgFaults() {
				x := m
				a.do(&x)
				b.do(&x)
				wantMsgOk(t, a.field+" and "+b.field, x, false)
			}
		}
		for range 200 {
			x := m
			for range 3 + r.IntN(10) {
				pick(r, msgFaults()...).do(&x)
			}
			wantMsgOk(t, "many faults", x, false)
		}
	}
}

// Places at 0, at the edges, and with one of the two 0 alone, held against Terms.
func TestMsgPlaces(t *testing.T) {
	numbers := []int{math.MinInt, -1, 0, 1, 2, 3, 99999, 100000, 100001, math.MaxInt}
	right := [4]int{}
	for _, term := range []int{-1, 0, 1, 2, 99999, 100000, 100001} {
		for _, index := range numbers {
			for _, indexTerm := range numbers {
				place := index == 0 && indexTerm == 0 || within(index, 1, 100000) && within(indexTerm, 1, 100000)
				fits := place && indexTerm <= term && within(term, 1, 100000)
				for i, c := range []msgCase{
					{"MsVote", voteMsg(3, 1, term, index, indexTerm), fits}, {"MsApp", appMsg(3, 1, term, index, indexTerm, 9), fits},
					{"MsApp with an entry", appMsg(3, 1, term, index, indexTerm, 9, impl.Entry{Term: term}), fits && index < 100000}, {"MsSnap", snapMsg(3, 1, term, index, indexTerm, "s"), fits && index > 0},
				} {
					wantMsgOk(t, c.name, c.m, c.want)
					if c.want {
						right[i]++
					}
				}
			}
		}
	}
	// Of the four Terms each takes no place at all, and each of five indexes with 1, 2, 4 and 5 terms.
	if want := [4]int{4 + 5*12, 4 + 5*12, 4 + 4*12, 5 * 12}; right != want {
		t.Errorf("%v are right, want %v", right, want)
	}
	for _, c := range []msgCase{
		{"no place", voteMsg(0, 1, 1, 0, 0), true}, {"an index alone", voteMsg(0, 1, 1, 1, 0), false}, {"a term alone", voteMsg(0, 1, 1, 0, 1), false}, {"both", voteMsg(0, 1, 1, 1, 1), true}, {"the term above Term", voteMsg(0, 1, 1, 1, 2), false},
		{"no place", appMsg(0, 1, 1, 0, 0, 0), true}, {"an index alone", appMsg(0, 1, 1, 1, 0, 0), false}, {"a term alone", appMsg(0, 1, 1, 0, 1, 0), false}, {"both", appMsg(0, 1, 1, 1, 1, 0), true}, {"the term above Term", appMsg(0, 1, 1, 1, 2, 0), false},
		{"no place", snapMsg(0, 1, 1, 0, 0, ""), false}, {"an index alone", snapMsg(0, 1, 1, 1, 0, ""), false}, {"a term alone", snapMsg(0, 1, 1, 0, 1, ""), false}, {"both", snapMsg(0, 1, 1, 1, 1, ""), true}, {"the term above Term", snapMsg(0, 1, 1, 1, 2, ""), false},
		{"an index without a term", appedMsg(0, 1, 1, 1, false), true}, {"an index beyond Term", appedMsg(0, 1, 1, 100000, true), true},
	} {
		wantMsgOk(t, c.name, c.m, c.want)
	}
}

func TestMsgEntries(t *testing.T) {
	app := func(entries ...impl.Entry) impl.Msg { return appMsg(0, 1, 7, 5, 3, 4, entries...) }
	first := func(entries ...impl.Entry) impl.Msg { return appMsg(0, 1, 7, 0, 0, 4, entries...) }
	at := func(index int, entries ...impl.Entry) impl.Msg { return appMsg(0, 1, 7, index, 3, 4, entries...) }
	data := func(many int) impl.Entry { return impl.Entry{Term: 5, Data: strings.Repeat("\x80", many)} }
	for _, c := range []msgCase{
		{"none", app(), true}, {"one", app(sameEntries(1, 5, "e")...), true}, {"MaxBatch - 1", app(sameEntries(3, 5, "e")...), true}, {"MaxBatch", app(sameEntries(4, 5, "e")...), true}, {"MaxBatch + 1", app(sameEntries(5, 5, "e")...), false}, {"MaxLog", app(sameEntries(60, 5, "")...), false}, {"MaxLog + 1", app(sameEntries(61, 5, "")...), false}, {"far more", app(sameEntries(10000, 5, "")...), false},
		{"all at their most", app(sameEntries(4, 7, strings.Repeat("d", 900))...), true},
		{"terms that rise", app(entriesOf(3, 4, 5, 7)...), true}, {"terms that stay", app(entriesOf(4, 4, 4, 4)...), true}, {"the second term falls", app(entriesOf(5, 4, 5, 5)...), false}, {"the third term falls", app(entriesOf(4, 5, 4, 5)...), false}, {"the last term falls", app(entriesOf(4, 5, 6, 5)...), false}, {"far down", app(entriesOf(7, 3)...), false},
		{"at IndexTerm", app(entriesOf(3)...), true}, {"below IndexTerm", app(entriesOf(2)...), false}, {"below IndexTerm, then not", app(entriesOf(2, 3, 4)...), false}, {"the last one below IndexTerm", app(entriesOf(3, 2)...), false},
		{"at Term", app(entriesOf(7)...), true}, {"above Term", app(entriesOf(8)...), false}, {"the last one above Term", app(entriesOf(3, 5, 7, 8)...), false}, {"all above Term", app(entriesOf(8, 9, 10)...), false},
		{"a first term 1", first(entriesOf(1)...), true}, {"a first term 0", first(entriesOf(0)...), false}, {"a first term -1", first(entriesOf(-1)...), false}, {"the least term", first(entriesOf(math.MinInt)...), false}, {"the greatest term", first(entriesOf(math.MaxInt)...), false}, {"terms 0 and 1", first(entriesOf(0, 1)...), false}, {"terms 1 and 0", first(entriesOf(1, 0)...), false}, {"the zero Entry", first(impl.Entry{}), false},
		{"MaxData - 1", app(data(899)), true}, {"MaxData", app(data(900)), true}, {"MaxData + 1", app(data(901)), false}, {"far more data", app(data(100000)), false}, {"the second one too long", app(data(0), data(901)), false}, {"the last one too long", app(data(1), data(900), data(2), data(901)), false}, {"the first one too long", app(data(901), data(0), data(0), data(0)), false}, {"all as long as may be", app(data(900), data(900), data(900), data(900)), true},
		{"MaxIndex without one", at(100000), true}, {"MaxIndex and one", at(100000, data(0)), false}, {"up to MaxIndex", at(99999, data(0)), true}, {"one past MaxIndex", at(99999, data(0), data(0)), false}, {"four up to MaxIndex", at(99996, sameEntries(4, 5, "")...), true}, {"four past MaxIndex", at(99997, sameEntries(4, 5, "")...), false}, {"three up to MaxIndex", at(99997, sameEntries(3, 5, "")...), true},
	} {
		wantMsgOk(t, c.name, c.m, c.want)
	}
}

// All terms of up to MaxBatch Entries about the edges.
func TestMsgEntriesOfAllTerms(t *testing.T) {
	right := 0
	for _, terms := range textsOf("\x00\x01\x02\x03\x04", 4) {
		var entries []impl.Entry
		for i := range len(terms) {
			entries = append(entries, impl.Entry{Term: int(terms[i]), Data: terms[:i]})
		}
		for indexTerm := range 4 {
			for term := 1; term <= 3; term++ {
				m := appMsg(0, 1, term, 5*min(indexTerm, 1), indexTerm, 4, entries...)
				wantMsgOk(t, "all terms", m, slowMsgOk(m))
				if impl.MsgOk(m) {
					right++
				}
			}
		}
	}
	// Rows of 0 to 4 terms that do not fall, of 1, 2 or 3 values: 5, 15 or 35. A place has 1 of them at least for each value, and none at all has as many as the first.
	if want := (5 + 5) + (15 + 15 + 5) + (35 + 35 + 15 + 5); right != want {
		t.Errorf("%d are right, want %d", right, want)
	}
}

func TestMsgDataOfSnaps(t *testing.T) {
	for _, c := range []byte{0, 'd', 0x80, 0xff} {
		for _, many := range []int{0, 1, 2, 127, 128, 900, 901, 29999, 30000, 30001, 30002, 100000} {
			wantMsgOk(t, "Data of a snap", snapMsg(0, 1, 7, 5, 3, strings.Repeat(string([]byte{c}), many)), many <= 30000)
		}
	}
	wantMsgOk(t, "all bytes", snapMsg(0, 1, 7, 5, 3, allBytes()), true)
	for _, s := range sampleStates() {
		wantMsgOk(t, "a state", snapMsg(0, 1, 7, 5, 3, impl.ShowState(s)), true)
	}
}

// Data of calls and answers: what ReadOp and ReadAnswer take, and nothing else.
func TestMsgDataOfCallsAndAnswers(t *testing.T) {
	for _, c := range allOpCases() {
		if opTexts().shows(c.o) {
			wantMsgOk(t, c.name, callMsg(12, 3, 9, opTexts().raw(c.o)), c.want)
		}
	}
	for _, c := range answerCases() {
		if answerTexts().shows(c.a) {
			wantMsgOk(t, c.name, toldMsg(3, 12, 9, answerTexts().raw(c.a)), c.want)
		}
	}
	for _, o := range sampleOps() {
		for _, cmd := range []bool{false, true} {
			s := impl.ShowOp(o)
			if cmd {
				s = impl.ShowCmd(impl.Cmd{Client: 1, Serial: 1, Op: o})
			}
			for at := range len(s) + 1 {
				for _, data := range []string{s[:at], s[at:], s[:at] + "\x00" + s[at:], s[:at] + "\x80" + s[at:], withByte(s+"\x00", at, 1)} {
					_, op := slowReadOp(data)
					_, answer := slowReadAnswer(data)
					wantMsgOk(t, "nearly an op", callMsg(12, 3, 9, data), op)
					wantMsgOk(t, "nearly an op told", toldMsg(3, 12, 9, data), answer)
				}
			}
		}
	}
	for _, c := range []msgCase{
		{"no op", callMsg(11, 0, 1, ""), false}, {"an answer", callMsg(11, 0, 1, "\x00\x00\x00"), false}, {"a byte behind an op", callMsg(11, 0, 1, flushText+"\x00"), false}, {"an op cut off", callMsg(11, 0, 1, flushText[:3]), false}, {"a call", callMsg(11, 0, 1, "\x01\x01"+flushText), false}, {"a Var longer than it must be", callMsg(11, 0, 1, "\x07\x80\x00\x00\x00"), false},
		{"no answer", toldMsg(0, 11, 1, ""), false}, {"the zero Answer", toldMsg(0, 11, 1, "\x00\x00\x00"), true}, {"an op", toldMsg(0, 11, 1, flushText), false}, {"an answer cut off", toldMsg(0, 11, 1, "\x00\x00"), false}, {"the last code", toldMsg(0, 11, 1, "\x04\x00\x00"), true}, {"one past it", toldMsg(0, 11, 1, "\x05\x00\x00"), false}, {"a Var longer than it must be", toldMsg(0, 11, 1, "\x80\x00\x00\x00"), false},
		{"MaxData", toldMsg(0, 11, 1, "\x00\x00\x00"+strings.Repeat("d", 900)), true}, {"one more", toldMsg(0, 11, 1, "\x00\x00\x00"+strings.Repeat("d", 901)), false},
	} {
		wantMsgOk(t, c.name, c.m, c.want)
	}
}

// All kinds, with all fields at their edges held against each other.
func TestMsgsOfAllFields(t *testing.T) {
	right := map[int]int{}
	for n := range 9 * 4 * 5 * 7 * 4 * 3 * 3 * 3 * 2 {
		// take is the next of n's digits, each of a base of its own.
		take := func(base int) int {
			digit := n % base
			n /= base
			return digit
		}
		m := impl.Msg{Kind: take(9), Term: []int{0, 1, 2, 100000, 100001}[take(5)], Index: []int{-1, 0, 1, 99999, 100000, 1000000, 1000001}[take(7)], IndexTerm: take(4), Commit: []int{0, 100000, 100001}[take(3)], Yes: take(2) == 1}
		m.Entries = [][]impl.Entry{nil, entriesOf(1), entriesOf(2, 2)}[take(3)]
		m.Data = []string{"", flushText, toldText}[take(3)]
		ends := [][2]int{{0, 4}, {1, 1}, {14, 0}, {4, 11}}[take(4)]
		m.From, m.To = ends[0], ends[1]
		wantMsgOk(t, "all fields", m, slowMsgOk(m))
		if impl.MsgOk(m) {
			right[m.Kind]++
		}
	}
	// Three Terms are right. With them go no place and each of three Indexes with 1, 2 or 3 IndexTerms; with an Entry 9 of these, with two of a later term 6.
	for kind := range 9 {
		if want := []int{0, 3 + 3*6, 3 * 2, 2 * (21 + 9 + 6), 3 * 4 * 2, 3 * 6 * 3, 4, 4, 0}[kind]; right[kind] != want {
			t.Errorf("kind %d: %d are right, want %d", kind, right[kind], want)
		}
	}
}

// longMsgs are those that take the most bytes of their kind.
func longMsgs() []impl.Msg {
	full := strings.Repeat("\xff", 900)
	var points []impl.Point
	for i := range 60 {
		points = append(points, impl.Point{T: i * i * (farTime / 3600), V: farTime * (1 - 2*(i%2))})
	}
	return []impl.Msg{
		appMsg(4, 3, 100000, 99996, 100000, 100000, sameEntries(4, 100000, full)...), snapMsg(4, 3, 100000, 100000, 100000, strings.Repeat("\x00\xff\x80", 10000)),
		callMsg(14, 4, 1000000, impl.ShowOp(writeOp("zzzzzzzz", points))), toldMsg(4, 14, 1000000, impl.ShowAnswer(impl.Answer{Code: 4, Index: 100000, Mark: farTime, Data: full})),
	}
}

// No byte of a text may be another one, whichever it is.
func TestMsgTextsWithAByteTurned(t *testing.T) {
	for _, m := range sampleMsgs() {
		s := impl.ShowMsg(m)
		wantMsg(t, "whole", m, s)
		for at := range len(s) {
			for b := range 256 {
				if byte(b) != s[at] {
					wantNoMsg(t, "a byte turned", withByte(s, at, byte(b)))
				}
			}
		}
	}
	r := rand.New(rand.NewPCG(15, 2))
	for _, m := range longMsgs() {
		s := impl.ShowMsg(m)
		wantMsgOk(t, "the longest", m, true)
		places := []int{0, 1, 2, 3, 4, 5, len(s) / 2, len(s) - 2, len(s) - 1}
		for range 60 {
			places = append(places, r.IntN(len(s)))
		}
		for _, at := range places {
			for _, bit := range []byte{1, 16, 128, 255} {
				wantNoMsg(t, "a byte turned", withByte(s, at, s[at]^bit))
			}
		}
	}
}

// A text ends just where its sum says: no beginning of it, and nothing with a byte more or less, is one.
func TestMsgTextsCutOff(t *testing.T) {
	wantNoMsg(t, "the empty text", "")
	for _, m := range sampleMsgs() {
		s := impl.ShowMsg(m)
		for at := range len(s) {
			wantNoMsg(t, "a beginning", s[:at])
			wantNoMsg(t, "a byte less", s[:at]+s[at+1:])
			wantNoMsg(t, "the end alone", s[at+1:])
			// Its sum can make a beginning right again, if all of what is cut off is Data.
			if at >= 4 && wantMsgWords(t, "a beginning with its sum", sumAhead(s[4:at])) && at < len(s)-len(m.Data) {
				t.Fatalf("%s was read though a part lacks", brief(s[:at]))
			}
		}
		for at := range len(s) + 1 {
			for b := range 256 {
				wantNoMsg(t, "a byte more", s[:at]+string([]byte{byte(b)})+s[at:])
			}
		}
		for _, other := range sampleMsgs() {
			wantNoMsg(t, "another one behind it", s+impl.ShowMsg(other))
			if !sameMsg(other, m) {
				wantNoMsg(t, "the sum of another one", impl.ShowMsg(other)[:4]+s[4:])
			}
		}
		wantNoMsg(t, "reversed", reversed(s))
		wantNoMsg(t, "without a sum", s[4:])
		wantNoMsg(t, "the sum behind it", s[4:]+s[:4])
		wantNoMsg(t, "the sum reversed", reversed(s[:4])+s[4:])
		wantNoMsg(t, "no sum", "\x00\x00\x00\x00"+s[4:])
		wantNoMsg(t, "the sum of all bytes", sumAhead(s))
		wantNoMsg(t, "the sum twice", s[:4]+s)
		wantNoMsg(t, "in a frame", slowFrame(s[4:]))
	}
	for _, m := range longMsgs() {
		s := impl.ShowMsg(m)
		for _, at := range []int{0, 3, 4, 5, 20, len(s) / 2, len(s) - 1} {
			wantNoMsg(t, "a beginning", s[:at])
			wantNoMsg(t, "a byte more", s[:at]+"\x00"+s[at:])
		}
		wantNoMsg(t, "a byte behind it", s+"\x00")
	}
}

// Each byte turned, taken away and put in, with the sum made right again: what is read then is shown as that text.
func TestMsgTextsTurnedWithANewSum(t *testing.T) {
	read, not := 0, 0
	for _, m := range sampleMsgs() {
		body := impl.ShowMsg(m)[4:]
		for at := range len(body) + 1 {
			l := []string{body[at:], body[at:] + body[:at]}
			if at < len(body) {
				l = append(l, body[:at]+body[at+1:], body[:at+1]+body[at:])
			}
			for b := range 256 {
				c := string([]byte{byte(b)})
				l = append(l, body[:at]+c+body[at:])
				if at < len(body) {
					l = append(l, body[:at]+c+body[at+1:])
				}
			}
			for _, turned := range l {
				if wantMsgWords(t, "turned, with a new sum", sumAhead(turned)) {
					read++
				} else {
					not++
				}
			}
		}
	}
	if read < 5000 || not < 50000 {
		t.Errorf("%d were read, %d not", read, not)
	}
}

// Vars that are longer than they must be, that are none, or beyond every int, in the place of each Var; the sum is right.
func TestMsgTextsWithStrangeVars(t *testing.T) {
	for _, m := range sampleMsgs() {
		x := msgImage(m)
		for _, at := range x.vars {
			part := x.parts[at]
			for range 9 {
				part = longer(part)
				wantNoMsg(t, "a Var longer than it must be", sumAhead(x.with(at, part)))
			}
			for name, part := range strangeVars() {
				wantMsgWords(t, name, sumAhead(x.with(at, part)))
				if len(part) > 1 {
					wantNoMsg(t, name, sumAhead(x.with(at, part)))
				}
			}
		}
	}
	// The Vars of calls and answers among Data, too.
	for _, o := range sampleOps() {
		for _, at := range opTexts().vars {
			l := opParts(o)
			l[at] = longer(l[at])
			wantMsgOk(t, "a longer Var in an op", callMsg(11, 0, 1, strings.Join(l, "")), false)
		}
	}
	for _, a := range sampleAnswers() {
		for _, at := range answerTexts().vars {
			l := answerParts(a)
			l[at] = longer(l[at])
			wantMsgOk(t, "a longer Var in an answer", toldMsg(0, 11, 1, strings.Join(l, "")), false)
		}
	}
}

// Numbers about all edges in the place of each Var.
func TestMsgTextsWithOtherNumbers(t *testing.T) {
	near := []int{0, 1, 2, 3, 4, 5, 6, 7, 8, 9, 10, 11, 12, 13, 14, 15, 16, 127, 128, 129, 255, 256, 257, 900, 901, 16383, 16384, 99995, 99996, 99997, 99999, 100000, 100001, 999999, 1000000, 1000001, farTime, 1 << 32, 1<<32 + 1, 1 << 47, impl.MaxVar}
	read, not := 0, 0
	for _, m := range sampleMsgs() {
		x := msgImage(m)
		for _, at := range x.vars {
			for _, n := range near {
				if wantMsgWords(t, "a number", sumAhead(x.with(at, slowVar(n)))) {
					read++
				} else {
					not++
				}
			}
		}
	}
	if read < 1000 || not < 3000 {
		t.Errorf("%d were read, %d not", read, not)
	}
}

// A length or a count that tells less or more than there is, up to far beyond the end of the text and beyond every int.
func TestMsgTextsWithWrongLengths(t *testing.T) {
	for _, m := range append(sampleMsgs(), appMsg(0, 1, 7, 5, 3, 4, impl.Entry{Term: 3}, impl.Entry{Term: 4, Data: "\x05\x00\x05\x00"}, impl.Entry{Term: 5, Data: "\x05\x01"})) {
		x := msgImage(m)
		for _, at := range slices.Concat(x.sizes, x.counts) {
			here, _ := slowVarAt(x.parts[at])
			rest := len(strings.Join(x.parts[at+1:], ""))
			near := []int{rest - 2, rest - 1, rest, rest + 1, rest + 2, 1 << 20, 1 << 31, 1 << 32, 1 << 48, impl.MaxVar - 1, impl.MaxVar, impl.MaxVar + 1, 1 << 62, math.MaxInt, math.MaxInt - 3, here + 1<<8, here + 1<<16, here + 1<<32, here + 1<<48}
			for n := range 60 {
				near = append(near, n)
			}
			for _, n := range near {
				if n < 0 || n == here {
					continue
				}
				s := sumAhead(x.with(at, slowVar(n)))
				wantMsgWords(t, "another length or count", s)
				if n > rest {
					wantNoMsg(t, "a length or a count past the end", s)
				}
			}
			for _, far := range []string{strings.Repeat("\xff", 8) + "\x7f", strings.Repeat("\x80", 9) + "\x01", strings.Repeat("\xff", 9) + "\x01", strings.Repeat("\x80", 9) + "\x02", strings.Repeat("\xff", 40)} {
				wantNoMsg(t, "a length or a count beyond every int", sumAhead(x.with(at, far)))
			}
		}
	}
}

// Entries that the text bears out, but that are more than a message has.
func TestMsgTextsWithTooManyEntries(t *testing.T) {
	for many := range 200 {
		for _, e := range []impl.Entry{{Term: 3}, {Term: 5, Data: "ab"}} {
			wantMsgOk(t, "many", appMsg(0, 1, 7, 5, 3, 4, sameEntries(many, e.Term, e.Data)...), many <= 4)
		}
	}
	for _, many := range []int{5, 61, 1000, 100000} {
		wantNoMsg(t, "far too many", sumAhead("\x03\x00\x01\x07\x05\x03\x04\x00"+slowVar(many)+strings.Repeat("\x03\x00", many)))
	}
	// One more than there are, and Data that could be one.
	wantNoMsg(t, "one lacks", sumAhead("\x03\x00\x01\x07\x05\x03\x04\x00\x02\x03\x00"))
	wantNoMsg(t, "one too many", sumAhead("\x03\x00\x01\x07\x05\x03\x04\x00\x01\x03\x00\x03\x00"))
	wantNoMsg(t, "an entry's data lack", sumAhead("\x03\x00\x01\x07\x05\x03\x04\x00\x01\x03\x02a"))
	wantNoMsg(t, "an entry without a length", sumAhead("\x03\x00\x01\x07\x05\x03\x04\x00\x01\x03"))
	wantMsg(t, "both", appMsg(0, 1, 7, 5, 3, 4, impl.Entry{Term: 3}, impl.Entry{Term: 3}), sumAhead("\x03\x00\x01\x07\x05\x03\x04\x00\x02\x03\x00\x03\x00"))
}

// What stands for Yes is 0 or 1; kinds that do not name it have 0.
func TestMsgTextsWithAnotherYes(t *testing.T) {
	for _, m := range sampleMsgs() {
		x := msgImage(m)
		names := slices.Contains(namedFields(m.Kind), "Yes")
		for n := range 300 {
			s := sumAhead(x.with(yesAt, slowVar(n)))
			if read := wantMsgWords(t, "another Yes", s); read != (n == 0 || n == 1 && names) {
				t.Fatalf("kind %d with %d for Yes: read is %v", m.Kind, n, read)
			}
			if n == 1 && names {
				yes := m
				yes.Yes = true
				wantMsg(t, "Yes", yes, s)
			}
		}
		for _, part := range []string{"\x80\x00", "\x81\x00", "\x81\x80\x00", slowVar(impl.MaxVar), slowVar(1 << 32), slowVar(1<<32 + 1), "\x81\x80\x80\x80\x80\x80\x80\x80\x80\x02"} {
			wantNoMsg(t, "a strange Yes", sumAhead(x.with(yesAt, part)))
		}
		wantMsgWords(t, "no Yes", sumAhead(x.with(yesAt, "")))
	}
}

// Texts whose parts can all be read, whose sum is right, and whose message is not.
func TestMsgTextsWhoseMessageIsNotRight(t *testing.T) {
	for name, body := range map[string]string{
		"no parts": "", "nine times 0": "\x00\x00\x00\x00\x00\x00\x00\x00\x00", "kind 8": "\x08\x00\x01\x01\x00\x00\x00\x00\x00", "kind 128": "\x80\x01\x00\x01\x01\x00\x00\x00\x00\x00",
		"to itself": "\x01\x01\x01\x01\x00\x00\x00\x00\x00", "from no server": "\x01\x05\x01\x01\x00\x00\x00\x00\x00", "to no server": "\x01\x00\x05\x01\x00\x00\x00\x00\x00", "Term 0": "\x01\x00\x01\x00\x00\x00\x00\x00\x00", "Term MaxTerm + 1": "\x01\x00\x01\xa1\x8d\x06\x00\x00\x00\x00\x00",
		"a vote at an index alone": "\x01\x00\x01\x01\x01\x00\x00\x00\x00", "a vote at a term alone": "\x01\x00\x01\x01\x00\x01\x00\x00\x00", "a vote at a later term": "\x01\x00\x01\x01\x01\x02\x00\x00\x00", "a vote with Commit": "\x01\x00\x01\x01\x00\x00\x01\x00\x00", "a vote with Yes": "\x01\x00\x01\x01\x00\x00\x00\x01\x00", "a vote with an Entry": "\x01\x00\x01\x01\x00\x00\x00\x00\x01\x01\x00", "a vote with Data": "\x01\x00\x01\x01\x00\x00\x00\x00\x00d",
		"voted with Index": "\x02\x01\x00\x03\x01\x00\x00\x01\x00", "voted with IndexTerm": "\x02\x01\x00\x03\x00\x01\x00\x01\x00", "voted with a place": "\x02\x01\x00\x03\x01\x01\x00\x01\x00", "voted with Commit": "\x02\x01\x00\x03\x00\x00\x01\x01\x00", "voted with an Entry": "\x02\x01\x00\x03\x00\x00\x00\x01\x01\x01\x00", "voted with Data": "\x02\x01\x00\x03\x00\x00\x00\x01\x00\x00",
		"app with Yes": "\x03\x00\x01\x01\x00\x00\x00\x01\x00", "app with Data": "\x03\x00\x01\x01\x00\x00\x00\x00\x00d", "app with an Entry and Data": "\x03\x00\x01\x01\x00\x00\x00\x00\x01\x01\x00d", "app with a term 0": "\x03\x00\x01\x01\x00\x00\x00\x00\x01\x00\x00", "app with a later term": "\x03\x00\x01\x01\x00\x00\x00\x00\x01\x02\x00", "app with terms that fall": "\x03\x00\x01\x02\x00\x00\x00\x00\x02\x02\x00\x01\x00", "app with a term below IndexTerm": "\x03\x00\x01\x02\x01\x02\x00\x00\x01\x01\x00", "app with five": "\x03\x00\x01\x01\x00\x00\x00\x00\x05\x01\x00\x01\x00\x01\x00\x01\x00\x01\x00", "app past MaxIndex": "\x03\x00\x01\x01\xa0\x8d\x06\x01\x00\x00\x01\x01\x00", "Commit MaxIndex + 1": "\x03\x00\x01\x01\x00\x00\xa1\x8d\x06\x00\x00", "an Entry of 901 bytes": "\x03\x00\x01\x01\x00\x00\x00\x00\x01\x01\x85\x07" + strings.Repeat("d", 901),
		"apped with IndexTerm": "\x04\x01\x00\x03\x05\x01\x00\x00\x00", "apped with Commit": "\x04\x01\x00\x03\x05\x00\x01\x00\x00", "apped with an Entry": "\x04\x01\x00\x03\x05\x00\x00\x00\x01\x01\x00", "apped with Data": "\x04\x01\x00\x03\x05\x00\x00\x00\x00d", "apped past MaxIndex": "\x04\x01\x00\x03\xa1\x8d\x06\x00\x00\x00\x00",
		"snap at no place": "\x05\x00\x01\x01\x00\x00\x00\x00\x00s", "snap at an index alone": "\x05\x00\x01\x01\x01\x00\x00\x00\x00s", "snap at a term alone": "\x05\x00\x01\x01\x00\x01\x00\x00\x00s", "snap at a later term": "\x05\x00\x01\x01\x01\x02\x00\x00\x00s", "snap with Commit": "\x05\x00\x01\x01\x01\x01\x01\x00\x00s", "snap with Yes": "\x05\x00\x01\x01\x01\x01\x00\x01\x00s", "snap with an Entry": "\x05\x00\x01\x01\x01\x01\x00\x00\x01\x01\x00s", "snap too long": "\x05\x00\x01\x01\x01\x01\x00\x00\x00" + strings.Repeat("s", 30001),
		"call with Term": "\x06\x0b\x04\x01\x01\x00\x00\x00\x00" + flushText, "call with IndexTerm": "\x06\x0b\x04\x00\x01\x01\x00\x00\x00" + flushText, "call with Commit": "\x06\x0b\x04\x00\x01\x00\x01\x00\x00" + flushText, "call with Yes": "\x06\x0b\x04\x00\x01\x00\x00\x01\x00" + flushText, "call with an Entry": "\x06\x0b\x04\x00\x01\x00\x00\x00\x01\x01\x00" + flushText, "call without an op": "\x06\x0b\x04\x00\x01\x00\x00\x00\x00", "call with serial 0": "\x06\x0b\x04\x00\x00\x00\x00\x00\x00" + flushText, "call past MaxSerial": "\x06\x0b\x04\x00\xc1\x84\x3d\x00\x00\x00\x00" + flushText, "call with an answer": "\x06\x0b\x04\x00\x01\x00\x00\x00\x00" + toldText, "call by client 0": "\x06\x0a\x04\x00\x01\x00\x00\x00\x00" + flushText, "call by client 5": "\x06\x0f\x04\x00\x01\x00\x00\x00\x00" + flushText, "call by a server": "\x06\x01\x04\x00\x01\x00\x00\x00\x00" + flushText, "call to a client": "\x06\x0b\x0c\x00\x01\x00\x00\x00\x00" + flushText,
		"told with Term": "\x07\x00\x0e\x01\x01\x00\x00\x00\x00" + toldText, "told with IndexTerm": "\x07\x00\x0e\x00\x01\x01\x00\x00\x00" + toldText, "told with Commit": "\x07\x00\x0e\x00\x01\x00\x01\x00\x00" + toldText, "told with Yes": "\x07\x00\x0e\x00\x01\x00\x00\x01\x00" + toldText, "told with an Entry": "\x07\x00\x0e\x00\x01\x00\x00\x00\x01\x01\x00" + toldText, "told without an answer": "\x07\x00\x0e\x00\x01\x00\x00\x00\x00", "told with serial 0": "\x07\x00\x0e\x00\x00\x00\x00\x00\x00" + toldText, "told past MaxSerial": "\x07\x00\x0e\x00\xc1\x84\x3d\x00\x00\x00\x00" + toldText, "told with an op": "\x07\x00\x0e\x00\x01\x00\x00\x00\x00" + flushText, "told by a client": "\x07\x0b\x0e\x00\x01\x00\x00\x00\x00" + toldText, "told to a server": "\x07\x00\x01\x00\x01\x00\x00\x00\x00" + toldText,
	} {
		wantNoMsg(t, name, sumAhead(body))
	}
}

// All short bodies over bytes that are kinds, servers, terms and counts, with their sum.
func TestShortMsgTexts(t *testing.T) {
	read := map[int]int{}
	want := func(body string) {
		if s := sumAhead(body); wantMsgWords(t, "short", s) {
			read[int(body[0])]++
		}
	}
	for _, body := range textsOf("\x00\x01\x02\x04", 9) {
		want(body)
	}
	for _, head := range []string{"\x03\x00\x01\x02\x00\x00\x00\x00", "\x03\x00\x01\x02\x05\x01\x00\x00", "\x06\x0b\x00\x00\x01\x00\x00\x00\x00", "\x07\x00\x0b\x00\x01\x00\x00\x00\x00", "\x05\x00\x01\x02\x01"} {
		for _, tail := range textsOf("\x00\x01\x02\x03\x07\x80", 6) {
			want(head + tail)
		}
	}
	for _, s := range textsOf("\x00\x01\x02\x80\xff", 6) {
		wantNoMsg(t, "short", s)
	}
	for kind := 1; kind <= 7; kind++ {
		if read[kind] < 5 {
			t.Errorf("kind %d: %d were read", kind, read[kind])
		}
	}
}

// rightMsg is a right message by chance.
func rightMsg(r *rand.Rand) impl.Msg {
	from := r.IntN(5)
	to := (from + 1 + r.IntN(4)) % 5
	term := pick(r, 1+r.IntN(4), 1+r.IntN(300), 1+r.IntN(100000), 100000)
	index, indexTerm := 0, 0
	if r.IntN(4) > 0 {
		index, indexTerm = pick(r, 1, 1+r.IntN(300), 1+r.IntN(100000), 100000), pick(r, 1, term, 1+r.IntN(term))
	}
	serial := pick(r, 1, 1+r.IntN(300), 1+r.IntN(1000000), 1000000)
	switch 1 + r.IntN(7) {
	case impl.MsVote:
		return voteMsg(from, to, term, index, indexTerm)
	case impl.MsVoted:
		return votedMsg(from, to, term, r.IntN(2) == 0)
	case impl.MsApp:
		var entries []impl.Entry
		last := max(indexTerm, 1)
		for range min(r.IntN(5), 100000-index) {
			last = pick(r, last, last, last+r.IntN(term-last+1), term)
			entries = append(entries, impl.Entry{Term: last, Data: pick(r, "", "d", allBytes(), flushText, strings.Repeat("d", r.IntN(901)))})
		}
		return appMsg(from, to, term, index, indexTerm, pick(r, 0, index, r.IntN(100001), 100000), entries...)
	case impl.MsApped:
		return appedMsg(from, to, term, index, r.IntN(2) == 0)
	case impl.MsSnap:
		return snapMsg(from, to, term, max(index, 1), max(indexTerm, 1), pick(r, "", "state", allBytes(), strings.Repeat("s", r.IntN(2000))))
	case impl.MsCall:
		o := someOp(r)
		if !slowOpOk(o) {
			o = flushOp()
		}
		return callMsg(11+r.IntN(4), to, serial, opTexts().raw(o))
	}
	a := someAnswer(r)
	if !slowAnswerOk(a) {
		a = impl.Answer{Index: 1}
	}
	return toldMsg(from, 11+r.IntN(4), serial, answerTexts().raw(a))
}

// turnMsg puts something by chance, often at an edge, in the place of a field.
func turnMsg(r *rand.Rand, m *impl.Msg) {
	number := func() int {
		return pick(r, -1, 0, 1, 2, m.Term, m.Term+1, m.IndexTerm, m.IndexTerm-1, 99999, 100000, 100001, 1000000, 1000001, impl.MaxVar, r.IntN(300), math.MaxInt, math.MinInt)
	}
	switch r.IntN(10) {
	case 0:
		m.Kind = pick(r, r.IntN(9), r.IntN(9), r.IntN(300), -1, math.MaxInt)
	case 1:
		m.From = pick(r, r.IntN(5), r.IntN(5), 10+r.IntN(6), r.IntN(20)-1, m.To, math.MaxInt)
	case 2:
		m.To = pick(r, r.IntN(5), r.IntN(5), 10+r.IntN(6), r.IntN(20)-1, m.From, math.MinInt)
	case 3:
		m.Term = number()
	case 4:
		m.Index = number()
	case 5:
		m.IndexTerm = number()
	case 6:
		m.Commit = number()
	case 7:
		m.Yes = !m.Yes
	case 8:
		l := slices.Clone(m.Entries)
		e := impl.Entry{Term: number(), Data: pick(r, "", "d", strings.Repeat("d", 899+r.IntN(3)))}
		if len(l) > 0 && r.IntN(2) == 0 {
			l[r.IntN(len(l))] = e
		} else {
			l = slices.Insert(l, r.IntN(len(l)+1), e)
		}
		m.Entries = l
	case 9:
		m.Data = pick(r, "", "d", flushText, toldText, someText(r, m.Data), someText(r, m.Data), opTexts().raw(pick(r, sampleOps()...)), answerTexts().raw(pick(r, sampleAnswers()...)), strings.Repeat("d", 30000), strings.Repeat("d", 30001))
	}
}

func someMsg(r *rand.Rand) impl.Msg {
	m := rightMsg(r)
	for range pick(r, 0, 0, 1, 1, 2, 3) {
		turnMsg(r, &m)
	}
	return m
}

// Messages by chance, their texts, and these texts turned, with the sum as it was and made right again.
func TestMsgsByChance(t *testing.T) {
	r := rand.New(rand.NewPCG(15, 3))
	right, not, read, unread := map[int]int{}, 0, 0, 0
	for range 20000 {
		m := someMsg(r)
		wantMsgOk(t, "by chance", m, slowMsgOk(m))
		if slowMsgOk(m) {
			right[m.Kind]++
		} else {
			not++
		}
		if !msgShows(m) || len(m.Data) > 5000 {
			continue
		}
		x := msgImage(m)
		l := []string{someText(r, rawMsg(m)), sumAhead(someText(r, x.text())), sumAhead(turnImage(r, x))}
		if len(x.sizes) > 0 {
			l = append(l, sumAhead(turnSized(r, x)))
		}
		for _, s := range l {
			if wantMsgWords(t, "by chance", s) {
				read++
			} else {
				unread++
			}
		}
	}
	for kind := 1; kind <= 7; kind++ {
		if right[kind] < 500 {
			t.Errorf("kind %d: %d right", kind, right[kind])
		}
	}
	if not < 5000 || min(read, unread) < 5000 {
		t.Errorf("%d not right; %d read, %d not", not, read, unread)
	}
}

// One byte by chance of a right text by chance is another one.
func TestMsgTextsWithAByteTurnedByChance(t *testing.T) {
	r := rand.New(rand.NewPCG(15, 4))
	for range 20000 {
		m := rightMsg(r)
		s := impl.ShowMsg(m)
		wantMsg(t, "right", m, rawMsg(m))
		at := r.IntN(len(s))
		wantNoMsg(t, "a byte turned", withByte(s, at, s[at]^byte(1+r.IntN(255))))
	}
}

// Bytes by chance, mostly small, with their sum.
func TestAnyBytesAsMsgs(t *testing.T) {
	r := rand.New(rand.NewPCG(15, 5))
	read := 0
	for range 200000 {
		text := make([]byte, r.IntN(16))
		for i := range text {
			text[i] = byte(pick(r, 0, 0, 0, 0, 0, 0, 1, r.IntN(5), r.IntN(15), r.IntN(256)))
		}
		for i := range min(len(text), 3*r.IntN(2)) {
			text[i] = byte([]int{1 + r.IntN(7), r.IntN(5), r.IntN(5)}[i])
		}
		if wantMsgWords(t, "any bytes", sumAhead(string(text))) {
			read++
		}
		wantMsgWords(t, "any bytes without a sum", string(text))
	}
	if read < 100 {
		t.Errorf("%d were read", read)
	}
}

// No two messages are shown as one text.
func TestMsgTextsDiffer(t *testing.T) {
	r := rand.New(rand.NewPCG(15, 6))
	shown := map[string]impl.Msg{}
	for range 20000 {
		m := someMsg(r)
		s := impl.ShowMsg(m)
		if was, there := shown[s]; s != "" && there && !sameMsg(was, m) {
			t.Fatalf("%s and %s are both shown as %s", brief(was), brief(m), brief(s))
		}
		shown[s] = m
	}
}

// A text that is refused leaves nothing behind for the next one.
func TestMsgTextsOneBehindTheOther(t *testing.T) {
	for _, m := range sampleMsgs() {
		s := impl.ShowMsg(m)
		for at := range len(s) {
			wantNoMsg(t, "a beginning", s[:at])
			wantMsg(t, "behind one that was refused", m, s)
		}
	}
}

func textsInMsg(m impl.Msg) []string {
	l := []string{m.Data}
	for _, e := range m.Entries {
		l = append(l, e.Data)
	}
	return l
}

// spareMsg has texts of its own, and room behind its Entries.
func spareMsg(m impl.Msg) impl.Msg {
	l := append(slices.Clone(m.Entries), impl.Entry{Term: 77}, impl.Entry{Term: 78})
	for i := range l {
		l[i].Data = strings.Clone(l[i].Data)
	}
	m.Entries, m.Data = l[:len(m.Entries)], strings.Clone(m.Data)
	return m
}

// spoilEntries writes over Entries, and over the room behind them.
func spoilEntries(l []impl.Entry) {
	l = l[:cap(l)]
	for i := range l {
		l[i] = impl.Entry{Term: 99, Data: "no"}
	}
}

func TestMsgAnswersNewMemory(t *testing.T) {
	for _, x := range slices.Concat(sampleMsgs(), longMsgs(), []impl.Msg{appMsg(0, 1, 7, 5, 3, 4, sameEntries(5, 5, "e")...)}) {
		m := spareMsg(x)
		ok := impl.MsgOk(m)
		s, again := impl.ShowMsg(m), impl.ShowMsg(m)
		wantNewTexts(t, "ShowMsg", []string{s}, append(textsInMsg(m), again))
		if with := m.Entries[:len(m.Entries)+2]; !sameMsg(m, x) || !slices.Equal(with[len(m.Entries):], []impl.Entry{{Term: 77}, {Term: 78}}) {
			t.Fatalf("%s was written into: %s", brief(x), brief(m))
		}
		first, read := impl.ReadMsg(s)
		second, _ := impl.ReadMsg(s)
		wantNewTexts(t, "ReadMsg", textsInMsg(first), slices.Concat(textsInMsg(second), textsInMsg(m), []string{s, again}))
		for i, one := range textsInMsg(first) {
			wantNewTexts(t, "ReadMsg", []string{one}, textsInMsg(first)[:i])
		}
		spoilEntries(m.Entries)
		spoilEntries(second.Entries)
		if read != ok || ok && !sameMsg(first, x) || !ok && !sameMsg(first, impl.Msg{}) {
			t.Fatalf("the answer hangs on another one: %s, want %s", brief(first), brief(x))
		}
		if impl.ShowMsg(x) != s {
			t.Fatalf("%s is shown in another way later on", brief(x))
		}
	}
}

func TestMsgsAnswerAtEveryArgument(t *testing.T) {
	long := strings.Repeat("a", 100000)
	for _, n := range []int{math.MinInt, -1, math.MaxInt} {
		for kind := -1; kind <= 8; kind++ {
			for _, k := range []int{kind, n} {
				wantMsgOk(t, "far too much", impl.Msg{Kind: k, From: n, To: n, Term: n, Index: n, IndexTerm: n, Commit: n, Yes: true, Entries: sameEntries(3, n, long), Data: long}, false)
				wantMsgOk(t, "far too much", impl.Msg{Kind: k, From: 0, To: 1, Term: 7, Index: n, IndexTerm: n, Entries: sameEntries(3, n, "")}, false)
				wantMsgOk(t, "far too much", impl.Msg{Kind: k, From: 11, To: 1, Index: n, Data: long}, false)
				wantMsgOk(t, "far too much", impl.Msg{Kind: k, From: 1, To: 11, Index: 1, Data: long}, false)
			}
		}
	}
	wantMsgOk(t, "far too many", appMsg(0, 1, 7, 5, 3, 4, make([]impl.Entry, 100000)...), false)
	most := slowVar(impl.MaxVar)
	for _, head := range []string{"", "\x03\x00\x01\x07\x05\x03\x04\x00", "\x03\x00\x01\x07\x05\x03\x04\x00" + most, "\x03\x00\x01\x07\x05\x03\x04\x00\x01\x03", "\x03\x00\x01\x07\x05\x03\x04\x00\x01\x03" + most, "\x05\x00\x01\x07\x05\x03\x00\x00\x00", "\x06\x0b\x00\x00\x01\x00\x00\x00\x00", "\x07\x00\x0b\x00\x01\x00\x00\x00\x00" + toldText} {
		for _, c := range []string{"\x00", "\x01", "\x7f", "\x80", "\xff", "a"} {
			body := head + strings.Repeat(c, 100000)
			wantNoMsg(t, "far too long", body)
			wantNoMsg(t, "far too long, with a sum", sumAhead(body))
		}
	}
}
