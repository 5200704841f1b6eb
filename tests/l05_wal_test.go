package tests

import (
	"fmt"
	"math"
	"math/rand/v2"
	"slices"
	"strings"
	"testing"
	"unsafe"

	"loop.example/g00360/impl"
)

// Promise 5: WalText of a right Wal is Replayed as it, to its last byte; Changes lead from the one Wal to the other one, each fitting.

// The slow functions do the document's words with plain lists, to be held against the program.

func within(n, least, most int) bool {
	return least <= n && n <= most
}

func slowRecOk(r impl.Rec) bool {
	switch r.Kind {
	case impl.RcHard:
		return within(r.Term, 0, 100000) && within(r.Vote, -1, 4) && r.Index == 0 && r.Data == ""
	case impl.RcEntry:
		return within(r.Term, 1, 100000) && within(r.Index, 1, 100000) && len(r.Data) <= 900 && r.Vote == 0
	case impl.RcCut:
		return within(r.Index, 1, 100000) && r.Term == 0 && r.Vote == 0 && r.Data == ""
	case impl.RcBase:
		return (r.Index == 0 && r.Term == 0 || within(r.Index, 1, 100000) && within(r.Term, 1, 100000)) && r.Vote == 0 && r.Data == ""
	}
	return false
}

func slowVar(n int) string {
	if n < 128 {
		return string([]byte{byte(n)})
	}
	return string([]byte{byte(n%128 + 128)}) + slowVar(n/128)
}

// rawRec is how a record would be shown, right or not; its numbers must not be below what a Var has.
func rawRec(r impl.Rec) string {
	return string([]byte{byte(r.Kind)}) + slowVar(r.Term) + slowVar(r.Index) + slowVar(r.Vote+1) + r.Data
}

// slowReadVar reads seven bits a byte, whatever they come to, and says what is left.
func slowReadVar(s string) (int, string) {
	n := 0
	for i := range len(s) {
		n += int(s[i]%128) << (7 * min(i, 8))
		if s[i] < 128 {
			return n, s[i+1:]
		}
	}
	return -1, ""
}

// slowReadRec reads s loosely, and takes what is shown as s again.
func slowReadRec(s string) (impl.Rec, bool) {
	if s == "" {
		return impl.Rec{}, false
	}
	r := impl.Rec{Kind: int(s[0])}
	rest := s[1:]
	r.Term, rest = slowReadVar(rest)
	r.Index, rest = slowReadVar(rest)
	r.Vote, rest = slowReadVar(rest)
	r.Vote--
	r.Data = rest
	if !slowRecOk(r) || rawRec(r) != s {
		return impl.Rec{}, false
	}
	return r, true
}

func slowWalOk(w impl.Wal) bool {
	if !within(w.Term, 0, 100000) || !within(w.Vote, -1, 4) || !within(w.Base, 0, 100000) || !within(w.BaseTerm, 0, 100000) {
		return false
	}
	if (w.Base == 0) != (w.BaseTerm == 0) || w.BaseTerm > w.Term || len(w.Entries) > 60 || w.Base+len(w.Entries) > 100000 {
		return false
	}
	for i, e := range w.Entries {
		if len(e.Data) > 900 || e.Term < 1 || e.Term < w.BaseTerm || i > 0 && e.Term < w.Entries[i-1].Term || e.Term > w.Term {
			return false
		}
	}
	return true
}

func slowLastTerm(w impl.Wal) int {
	if len(w.Entries) == 0 {
		return w.BaseTerm
	}
	return w.Entries[len(w.Entries)-1].Term
}

func slowFits(w impl.Wal, r impl.Rec) bool {
	last := w.Base + len(w.Entries)
	switch {
	case !slowRecOk(r):
		return false
	case r.Kind == impl.RcHard:
		return r.Term > w.Term || r.Term == w.Term && (w.Vote == -1 || w.Vote == r.Vote)
	case r.Kind == impl.RcEntry:
		return r.Index == last+1 && len(w.Entries) < 60 && r.Term >= slowLastTerm(w) && r.Term <= w.Term
	case r.Kind == impl.RcCut:
		return within(r.Index, w.Base+1, last)
	}
	return false
}

// slowStep asks in the order in which the words name what may be wrong: the record first, then the Wal.
func slowStep(w impl.Wal, r impl.Rec) (impl.Wal, bool) {
	x := copyWal(w)
	if !slowFits(w, r) {
		return x, false
	}
	if !slowWalOk(w) {
		return impl.Wal{}, false
	}
	switch r.Kind {
	case impl.RcHard:
		x.Term, x.Vote = r.Term, r.Vote
	case impl.RcEntry:
		x.Entries = append(x.Entries, impl.Entry{Term: r.Term, Data: r.Data})
	case impl.RcCut:
		for x.Base+len(x.Entries) >= r.Index {
			x.Entries = x.Entries[:len(x.Entries)-1]
		}
	}
	return x, true
}

// slowBodies is the bodies of the frames with which the text begins.
func slowBodies(text string) []string {
	var bodies []string
	for len(text) >= 8 {
		many := int(text[0])<<24 + int(text[1])<<16 + int(text[2])<<8 + int(text[3])
		if many < 1 || many > 2000 || 8+many > len(text) || slowFrame(text[8:8+many]) != text[:8+many] {
			break
		}
		bodies = append(bodies, text[8:8+many])
		text = text[8+many:]
	}
	return bodies
}

func slowReplay(text string) (impl.Wal, int, bool) {
	w, used := impl.Wal{}, 0
	for i, body := range slowBodies(text) {
		r, ok := slowReadRec(body)
		if i == 0 {
			w = impl.Wal{Term: r.Term, Vote: -1, Base: r.Index, BaseTerm: r.Term}
			ok = ok && r.Kind == impl.RcBase
		} else if ok {
			w, ok = slowStep(w, r)
		}
		if !ok && i == 0 {
			return impl.Wal{}, 0, false
		}
		if !ok {
			break
		}
		used += 8 + len(body)
	}
	return w, used, used > 0
}

func entryRec(w impl.Wal, i int) impl.Rec {
	return impl.Rec{Kind: impl.RcEntry, Term: w.Entries[i].Term, Index: w.Base + i + 1, Data: w.Entries[i].Data}
}

// wholeRecs is the records of which the Wal's text is made.
func wholeRecs(w impl.Wal) []impl.Rec {
	l := []impl.Rec{{Kind: impl.RcBase, Term: w.BaseTerm, Index: w.Base}, {Kind: impl.RcHard, Term: w.Term, Vote: w.Vote}}
	for i := range w.Entries {
		l = append(l, entryRec(w, i))
	}
	return l
}

// logOf is the frames of records, right or not, one behind the other.
func logOf(recs ...impl.Rec) string {
	var text strings.Builder
	for _, r := range recs {
		text.WriteString(slowFrame(rawRec(r)))
	}
	return text.String()
}

func slowWalText(w impl.Wal) string {
	if !slowWalOk(w) {
		return ""
	}
	return logOf(wholeRecs(w)...)
}

func slowChanges(a, b impl.Wal) ([]impl.Rec, bool) {
	if !slowWalOk(a) || !slowWalOk(b) || a.Base != b.Base || a.BaseTerm != b.BaseTerm {
		return nil, false
	}
	var l []impl.Rec
	if hard := (impl.Rec{Kind: impl.RcHard, Term: b.Term, Vote: b.Vote}); a.Term != b.Term || a.Vote != b.Vote {
		if !slowFits(a, hard) {
			return nil, false
		}
		l = append(l, hard)
	}
	same := 0
	for len(a.Entries) > same && len(b.Entries) > same && a.Entries[same] == b.Entries[same] {
		same++
	}
	if len(a.Entries) > same {
		l = append(l, impl.Rec{Kind: impl.RcCut, Index: a.Base + same + 1})
	}
	for i := same; i < len(b.Entries); i++ {
		l = append(l, entryRec(b, i))
	}
	return l, true
}

func copyWal(w impl.Wal) impl.Wal {
	w.Entries = slices.Clone(w.Entries)
	return w
}

func sameWal(a, b impl.Wal) bool {
	return a.Term == b.Term && a.Vote == b.Vote && a.Base == b.Base && a.BaseTerm == b.BaseTerm && slices.Equal(a.Entries, b.Entries)
}

// brief is the value for a message, cut off where it is long.
func brief(v any) string {
	s := fmt.Sprintf("%#v", v)
	if len(s) > 900 {
		s = s[:900] + " .."
	}
	return s
}

// entriesOf has an Entry for each term, with data that tell them apart.
func entriesOf(terms ...int) []impl.Entry {
	var l []impl.Entry
	for i, term := range terms {
		l = append(l, impl.Entry{Term: term, Data: strings.Repeat("d", i%4) + string([]byte{byte(i)})})
	}
	return l
}

// sameEntries are many alike.
func sameEntries(many, term int, data string) []impl.Entry {
	return slices.Repeat([]impl.Entry{{Term: term, Data: data}}, many)
}

// richWal is right, with Entries 8, 9, 10 and 11.
func richWal() impl.Wal {
	return impl.Wal{Term: 6, Vote: 2, Base: 7, BaseTerm: 3, Entries: []impl.Entry{{Term: 3, Data: "a"}, {Term: 3}, {Term: 5, Data: "c\x00\xff"}, {Term: 6, Data: "dd"}}}
}

// rightWals are ordinary ones and those at the edges.
func rightWals() []impl.Wal {
	full := strings.Repeat("x", impl.MaxData)
	return []impl.Wal{
		{},
		{Vote: -1},
		{Vote: impl.MaxPeers - 1},
		{Term: 1, Vote: -1},
		{Term: impl.MaxTerm, Vote: -1},
		{Term: 2, Vote: 0, Entries: entriesOf(2)},
		{Term: 2, Vote: 1, Entries: entriesOf(1)},
		{Term: 2, Vote: 1, Entries: []impl.Entry{{Term: 1}}},
		{Term: 9, Vote: 3, Entries: entriesOf(1, 1, 2, 5, 5, 9)},
		{Term: 9, Vote: -1, Base: 1, BaseTerm: 1},
		{Term: 9, Vote: 4, Base: 3, BaseTerm: 9},
		{Term: 9, Vote: 4, Base: 3, BaseTerm: 9, Entries: entriesOf(9, 9)},
		{Term: 9, Vote: 0, Base: 3, BaseTerm: 4, Entries: entriesOf(4, 8)},
		richWal(),
		{Term: 1, Vote: -1, Base: impl.MaxIndex, BaseTerm: 1},
		{Term: 1, Vote: -1, Base: impl.MaxIndex - 1, BaseTerm: 1, Entries: entriesOf(1)},
		{Term: impl.MaxTerm, Vote: 4, Base: impl.MaxIndex - impl.MaxLog, BaseTerm: impl.MaxTerm, Entries: sameEntries(impl.MaxLog, impl.MaxTerm, full)},
		{Term: impl.MaxTerm, Vote: -1, Entries: sameEntries(impl.MaxLog, 1, "")},
		{Term: 3, Vote: 1, Entries: []impl.Entry{{Term: 3, Data: full}, {Term: 3, Data: allBytes()}, {Term: 3, Data: "\x00"}}},
		// Data that look like records and frames themselves.
		{Term: 3, Vote: 1, Entries: []impl.Entry{{Term: 1, Data: "\x01\x01\x00\x00"}, {Term: 2, Data: slowFrame("\x03\x00\x01\x01")}}},
	}
}

// A badWal is a Wal that is not right, and how.
type badWal struct {
	name string
	w    impl.Wal
}

// badWals are not right in one way each.
func badWals() []badWal {
	turn := func(name string, change func(w *impl.Wal)) badWal {
		w := richWal()
		change(&w)
		return badWal{name, w}
	}
	return []badWal{
		turn("Term -1", func(w *impl.Wal) { *w = impl.Wal{Term: -1} }),
		turn("Term above MaxTerm", func(w *impl.Wal) { w.Term = impl.MaxTerm + 1 }),
		turn("Term the greatest", func(w *impl.Wal) { w.Term = math.MaxInt }),
		turn("Term the least", func(w *impl.Wal) { *w = impl.Wal{Term: math.MinInt} }),
		turn("Vote -2", func(w *impl.Wal) { w.Vote = -2 }),
		turn("Vote MaxPeers", func(w *impl.Wal) { w.Vote = impl.MaxPeers }),
		turn("Vote the least", func(w *impl.Wal) { w.Vote = math.MinInt }),
		turn("Vote the greatest", func(w *impl.Wal) { w.Vote = math.MaxInt }),
		turn("Base -1", func(w *impl.Wal) { w.Base = -1 }),
		turn("Base -1 without Entries", func(w *impl.Wal) { *w = impl.Wal{Term: 1, Base: -1, BaseTerm: 1} }),
		turn("Base the least", func(w *impl.Wal) { w.Base = math.MinInt }),
		turn("Base the greatest", func(w *impl.Wal) { w.Base = math.MaxInt }),
		turn("Base above MaxIndex", func(w *impl.Wal) { *w = impl.Wal{Term: 1, Base: impl.MaxIndex + 1, BaseTerm: 1} }),
		turn("Base 0 with a BaseTerm", func(w *impl.Wal) { w.Base = 0 }),
		turn("Base 0 with a BaseTerm, without Entries", func(w *impl.Wal) { *w = impl.Wal{Term: 1, BaseTerm: 1} }),
		turn("BaseTerm 0 with a Base", func(w *impl.Wal) { w.BaseTerm = 0 }),
		turn("BaseTerm -1", func(w *impl.Wal) { w.BaseTerm = -1 }),
		turn("BaseTerm -1 at Base 0", func(w *impl.Wal) { *w = impl.Wal{Term: 1, BaseTerm: -1} }),
		turn("BaseTerm above Term", func(w *impl.Wal) { *w = impl.Wal{Term: 2, Base: 5, BaseTerm: 3} }),
		turn("BaseTerm above MaxTerm", func(w *impl.Wal) { *w = impl.Wal{Term: impl.MaxTerm, Base: 5, BaseTerm: impl.MaxTerm + 1} }),
		turn("one Entry more than MaxLog", func(w *impl.Wal) { w.Entries = sameEntries(impl.MaxLog+1, 3, "") }),
		turn("many Entries", func(w *impl.Wal) { w.Entries = sameEntries(5000, 3, "x") }),
		turn("the first Data too long", func(w *impl.Wal) { w.Entries[0].Data = strings.Repeat("x", impl.MaxData+1) }),
		turn("the last Data too long", func(w *impl.Wal) { w.Entries[3].Data = strings.Repeat("x", impl.MaxData+1) }),
		turn("a Data far too long", func(w *impl.Wal) { w.Entries[1].Data = strings.Repeat("x", 70000) }),
		turn("an Entry of term 0", func(w *impl.Wal) { *w = impl.Wal{Term: 2, Entries: entriesOf(0)} }),
		turn("an Entry of term -1", func(w *impl.Wal) { *w = impl.Wal{Term: 2, Entries: entriesOf(-1, 1)} }),
		turn("an Entry of term 0 at Term 0", func(w *impl.Wal) { *w = impl.Wal{Entries: entriesOf(0)} }),
		turn("an Entry less than BaseTerm", func(w *impl.Wal) { w.Entries[0].Term = 2 }),
		turn("an Entry less than the one ahead", func(w *impl.Wal) { w.Entries[3].Term = 4 }),
		turn("an Entry in the middle less than the one ahead", func(w *impl.Wal) { w.Entries[0].Term = 4 }),
		turn("the last Entry above Term", func(w *impl.Wal) { w.Entries[3].Term = 7 }),
		turn("an Entry in the middle above Term", func(w *impl.Wal) { w.Term = 4 }),
		turn("Entries beyond MaxIndex", func(w *impl.Wal) { w.Base = impl.MaxIndex - 3 }),
		turn("an Entry behind MaxIndex", func(w *impl.Wal) { *w = impl.Wal{Term: 1, Base: impl.MaxIndex, BaseTerm: 1, Entries: entriesOf(1)} }),
	}
}

func TestWalConstants(t *testing.T) {
	got := []int{impl.MaxPeers, impl.MaxTerm, impl.MaxIndex, impl.MaxLog, impl.MaxData, impl.RcHard, impl.RcEntry, impl.RcCut, impl.RcBase}
	if want := []int{5, 100000, 100000, 60, 900, 1, 2, 3, 4}; !slices.Equal(got, want) {
		t.Errorf("%v, want %v", got, want)
	}
}

func TestShowRecBytes(t *testing.T) {
	for _, c := range []struct {
		r    impl.Rec
		want string
	}{
		{impl.Rec{Kind: impl.RcHard, Vote: -1}, "\x01\x00\x00\x00"},
		{impl.Rec{Kind: impl.RcHard}, "\x01\x00\x00\x01"},
		{impl.Rec{Kind: impl.RcHard, Term: 127, Vote: 4}, "\x01\x7f\x00\x05"},
		{impl.Rec{Kind: impl.RcHard, Term: 128, Vote: 3}, "\x01\x80\x01\x00\x04"},
		{impl.Rec{Kind: impl.RcHard, Term: impl.MaxTerm, Vote: 1}, "\x01\xa0\x8d\x06\x00\x02"},
		{impl.Rec{Kind: impl.RcEntry, Term: 1, Index: 1}, "\x02\x01\x01\x01"},
		{impl.Rec{Kind: impl.RcEntry, Term: 2, Index: 300, Data: "xy"}, "\x02\x02\xac\x02\x01xy"},
		{impl.Rec{Kind: impl.RcEntry, Term: impl.MaxTerm, Index: impl.MaxIndex, Data: "\x00\xff"}, "\x02\xa0\x8d\x06\xa0\x8d\x06\x01\x00\xff"},
		{impl.Rec{Kind: impl.RcCut, Index: 1}, "\x03\x00\x01\x01"},
		{impl.Rec{Kind: impl.RcCut, Index: impl.MaxIndex}, "\x03\x00\xa0\x8d\x06\x01"},
		{impl.Rec{Kind: impl.RcBase}, "\x04\x00\x00\x01"},
		{impl.Rec{Kind: impl.RcBase, Term: 1, Index: 2}, "\x04\x01\x02\x01"},
		{impl.Rec{Kind: impl.RcBase, Term: impl.MaxTerm, Index: 129}, "\x04\xa0\x8d\x06\x81\x01\x01"},
	} {
		if s := impl.ShowRec(c.r); s != c.want {
			t.Errorf("ShowRec(%#v) = %q, want %q", c.r, s, c.want)
		}
		if r, ok := impl.ReadRec(c.want); !ok || r != c.r {
			t.Errorf("ReadRec(%q) = %#v, %v, want %#v", c.want, r, ok, c.r)
		}
		if !impl.RecOk(c.r) {
			t.Errorf("RecOk(%#v) = false", c.r)
		}
	}
}

// wantRec holds a record against RecOk, ShowRec and ReadRec.
func wantRec(t *testing.T, r impl.Rec, right bool) {
	t.Helper()
	if ok := impl.RecOk(r); ok != right {
		t.Fatalf("RecOk(%s) = %v", brief(r), ok)
	}
	want := ""
	if right {
		want = rawRec(r)
	}
	if s := impl.ShowRec(r); s != want {
		t.Fatalf("ShowRec(%s) = %s, want %s", brief(r), brief(s), brief(want))
	}
	if right {
		if x, ok := impl.ReadRec(want); !ok || x != r {
			t.Fatalf("ReadRec(%s) = %s, %v", brief(want), brief(x), ok)
		}
		return
	}
	if r.Kind < 0 || r.Kind > 255 || r.Term < 0 || r.Index < 0 || r.Vote < -1 || r.Vote == math.MaxInt {
		return
	}
	if x, ok := impl.ReadRec(rawRec(r)); ok || x != (impl.Rec{}) {
		t.Fatalf("ReadRec(%s) = %s, %v", brief(rawRec(r)), brief(x), ok)
	}
}

// The edges that the document names, each with the answer written out.
func TestRecEdges(t *testing.T) {
	full := strings.Repeat("x", impl.MaxData)
	for _, c := range []struct {
		r     impl.Rec
		right bool
	}{
		{impl.Rec{}, false},
		{impl.Rec{Kind: impl.RcHard, Term: -1}, false},
		{impl.Rec{Kind: impl.RcHard, Term: 0}, true},
		{impl.Rec{Kind: impl.RcHard, Term: impl.MaxTerm}, true},
		{impl.Rec{Kind: impl.RcHard, Term: impl.MaxTerm + 1}, false},
		{impl.Rec{Kind: impl.RcHard, Vote: -2}, false},
		{impl.Rec{Kind: impl.RcHard, Vote: -1}, true},
		{impl.Rec{Kind: impl.RcHard, Vote: impl.MaxPeers - 1}, true},
		{impl.Rec{Kind: impl.RcHard, Vote: impl.MaxPeers}, false},
		{impl.Rec{Kind: impl.RcHard, Index: 1}, false},
		{impl.Rec{Kind: impl.RcHard, Data: "x"}, false},
		{impl.Rec{Kind: impl.RcEntry, Term: 0, Index: 1}, false},
		{impl.Rec{Kind: impl.RcEntry, Term: 1, Index: 0}, false},
		{impl.Rec{Kind: impl.RcEntry, Term: 1, Index: 1}, true},
		{impl.Rec{Kind: impl.RcEntry, Term: impl.MaxTerm, Index: impl.MaxIndex}, true},
		{impl.Rec{Kind: impl.RcEntry, Term: impl.MaxTerm + 1, Index: 1}, false},
		{impl.Rec{Kind: impl.RcEntry, Term: 1, Index: impl.MaxIndex + 1}, false},
		{impl.Rec{Kind: impl.RcEntry, Term: 1, Index: 1, Data: full}, true},
		{impl.Rec{Kind: impl.RcEntry, Term: 1, Index: 1, Data: full + "x"}, false},
		{impl.Rec{Kind: impl.RcEntry, Term: 1, Index: 1, Vote: -1}, false},
		{impl.Rec{Kind: impl.RcEntry, Term: 1, Index: 1, Vote: 1}, false},
		{impl.Rec{Kind: impl.RcCut, Index: 0}, false},
		{impl.Rec{Kind: impl.RcCut, Index: -1}, false},
		{impl.Rec{Kind: impl.RcCut, Index: 1}, true},
		{impl.Rec{Kind: impl.RcCut, Index: impl.MaxIndex}, true},
		{impl.Rec{Kind: impl.RcCut, Index: impl.MaxIndex + 1}, false},
		{impl.Rec{Kind: impl.RcCut, Index: 1, Term: 1}, false},
		{impl.Rec{Kind: impl.RcCut, Index: 1, Vote: -1}, false},
		{impl.Rec{Kind: impl.RcCut, Index: 1, Vote: 1}, false},
		{impl.Rec{Kind: impl.RcCut, Index: 1, Data: "x"}, false},
		{impl.Rec{Kind: impl.RcBase}, true},
		{impl.Rec{Kind: impl.RcBase, Term: 1}, false},
		{impl.Rec{Kind: impl.RcBase, Index: 1}, false},
		{impl.Rec{Kind: impl.RcBase, Index: -1}, false},
		{impl.Rec{Kind: impl.RcBase, Index: -1, Term: 1}, false},
		{impl.Rec{Kind: impl.RcBase, Index: 1, Term: 1}, true},
		{impl.Rec{Kind: impl.RcBase, Index: 1, Term: -1}, false},
		{impl.Rec{Kind: impl.RcBase, Index: impl.MaxIndex, Term: impl.MaxTerm}, true},
		{impl.Rec{Kind: impl.RcBase, Index: impl.MaxIndex + 1, Term: 1}, false},
		{impl.Rec{Kind: impl.RcBase, Index: 1, Term: impl.MaxTerm + 1}, false},
		{impl.Rec{Kind: impl.RcBase, Vote: -1}, false},
		{impl.Rec{Kind: impl.RcBase, Vote: 1}, false},
		{impl.Rec{Kind: impl.RcBase, Data: "x"}, false},
		{impl.Rec{Kind: impl.RcBase, Index: 1, Term: 1, Data: "x"}, false},
		{impl.Rec{Kind: impl.RcBase, Index: 1, Term: 1, Vote: 1}, false},
		{impl.Rec{Kind: impl.RcHard - 1, Index: 1, Term: 1}, false},
		{impl.Rec{Kind: impl.RcBase + 1, Index: 1, Term: 1}, false},
		{impl.Rec{Kind: 256 + impl.RcHard}, false},
	} {
		wantRec(t, c.r, c.right)
	}
}

// All edges of all fields with one another.
func TestRecEdgesTogether(t *testing.T) {
	numbers := []int{math.MinInt, -1, 0, 1, 2, impl.MaxTerm - 1, impl.MaxTerm, impl.MaxTerm + 1, math.MaxInt}
	full := strings.Repeat("x", impl.MaxData)
	for _, kind := range []int{math.MinInt, -1, 0, 1, 2, 3, 4, 5, 255, 257, 258, 259, 260, math.MaxInt} {
		for _, term := range numbers {
			for _, index := range numbers {
				for _, vote := range []int{math.MinInt, -2, -1, 0, 1, 4, 5, 6, math.MaxInt} {
					for _, data := range []string{"", "\x00", full, full + "x"} {
						r := impl.Rec{Kind: kind, Term: term, Index: index, Vote: vote, Data: data}
						wantRec(t, r, slowRecOk(r))
					}
				}
			}
		}
	}
}

// wantReadRec holds ReadRec against the words.
func wantReadRec(t *testing.T, s string) {
	t.Helper()
	want, right := slowReadRec(s)
	r, ok := impl.ReadRec(s)
	if r != want || ok != right {
		t.Fatalf("ReadRec(%s) = %s, %v, want %s, %v", brief(s), brief(r), ok, brief(want), right)
	}
	if ok && impl.ShowRec(r) != s {
		t.Fatalf("ReadRec(%s) = %s, that is shown as %s", brief(s), brief(r), brief(impl.ShowRec(r)))
	}
}

func TestReadRecShortTexts(t *testing.T) {
	for _, s := range textsOf("\x00\x01\x02\x03\x04\x05\x06\x80\x81", 6) {
		wantReadRec(t, s)
	}
}

// Each byte of records is taken away, changed in all ways, and has another one put ahead of it.
func TestReadRecNearly(t *testing.T) {
	for _, r := range []impl.Rec{
		{Kind: impl.RcHard, Term: 300, Vote: 4},
		{Kind: impl.RcHard, Term: impl.MaxTerm, Vote: -1},
		{Kind: impl.RcEntry, Term: 2, Index: 130, Data: "xy"},
		{Kind: impl.RcEntry, Term: impl.MaxTerm, Index: impl.MaxIndex},
		{Kind: impl.RcCut, Index: impl.MaxIndex},
		{Kind: impl.RcBase, Term: impl.MaxTerm, Index: 7},
		{Kind: impl.RcBase},
	} {
		s := impl.ShowRec(r)
		for at := range len(s) {
			wantReadRec(t, s[:at])
			wantReadRec(t, s[at:])
			wantReadRec(t, s[:at]+s[at+1:])
			for b := range 256 {
				wantReadRec(t, withByte(s, at, byte(b)))
				wantReadRec(t, s[:at]+string([]byte{byte(b)})+s[at:])
			}
		}
		for b := range 256 {
			wantReadRec(t, s+string([]byte{byte(b)}))
		}
	}
	for _, s := range []string{
		"", "\x01", "\x01\x00", "\x01\x00\x00", "\x00\x00\x00\x01", "\x05\x01\x01\x01", "\xff\x00\x00\x01",
		"\x01\x80\x00\x00\x01", "\x01\x00\x80\x00\x01", "\x01\x00\x00\x81\x00", "\x03\x00\x01\x80\x00", "\x03\x00\x01\x00", "\x03\x00\x01\x02",
		"\x01\xff\xff\xff\xff\xff\xff\x7f\x00\x01", "\x01\xff\xff\xff\xff\xff\xff\xff\x01\x00\x01", "\x01\x00\x00\xff\xff\xff\xff\xff\xff\x7f",
	} {
		if r, ok := impl.ReadRec(s); ok || r != (impl.Rec{}) {
			t.Errorf("ReadRec(%q) = %#v, %v", s, r, ok)
		}
	}
}

func TestReadRecLongTexts(t *testing.T) {
	head := impl.ShowRec(impl.Rec{Kind: impl.RcEntry, Term: impl.MaxTerm, Index: impl.MaxIndex})
	for _, many := range []int{0, 1, impl.MaxData - 1, impl.MaxData, impl.MaxData + 1, impl.MaxBody, 70000} {
		r, ok := impl.ReadRec(head + strings.Repeat("x", many))
		if ok != (many <= impl.MaxData) || ok && len(r.Data) != many || !ok && r != (impl.Rec{}) {
			t.Errorf("%d bytes of Data: %s, %v", many, brief(r), ok)
		}
	}
}

func TestWalOkOfRightOnes(t *testing.T) {
	for _, w := range rightWals() {
		if !slowWalOk(w) || !impl.WalOk(w) {
			t.Errorf("WalOk(%s): the words say %v, it says %v", brief(w), slowWalOk(w), impl.WalOk(w))
		}
	}
}

// someRecs are now right and now not; some fit the rich Wal.
func someRecs() []impl.Rec {
	return []impl.Rec{
		{Kind: impl.RcHard, Term: 7, Vote: -1},
		{Kind: impl.RcHard, Term: 6, Vote: 2},
		{Kind: impl.RcHard, Term: 6, Vote: 3},
		{Kind: impl.RcHard, Term: impl.MaxTerm, Vote: impl.MaxPeers - 1},
		{Kind: impl.RcEntry, Term: 6, Index: 12, Data: "new"},
		{Kind: impl.RcEntry, Term: 1, Index: 1, Data: "x"},
		{Kind: impl.RcCut, Index: 8},
		{Kind: impl.RcCut, Index: 11},
		{Kind: impl.RcBase},
		{Kind: impl.RcBase, Term: 1, Index: 1},
		{},
		{Kind: 5},
	}
}

func TestWalsThatAreNotRight(t *testing.T) {
	for _, b := range badWals() {
		if slowWalOk(b.w) || impl.WalOk(b.w) {
			t.Errorf("%s: WalOk: the words say %v, it says %v", b.name, slowWalOk(b.w), impl.WalOk(b.w))
		}
		if s := impl.WalText(b.w); s != "" {
			t.Errorf("%s: WalText = %s", b.name, brief(s))
		}
		for _, w := range append(rightWals(), b.w, badWals()[0].w) {
			if l, ok := impl.Changes(b.w, w); ok || len(l) != 0 {
				t.Errorf("%s: Changes from it = %s, %v", b.name, brief(l), ok)
			}
			if l, ok := impl.Changes(w, b.w); ok || len(l) != 0 {
				t.Errorf("%s: Changes to it = %s, %v", b.name, brief(l), ok)
			}
		}
	}
}

// someWal is small and put together by chance, so that it is now right and now just not.
func someWal(r *rand.Rand) impl.Wal {
	w := impl.Wal{Term: pick(r, -1, 0, 1, 2, 3, 3, 3, impl.MaxTerm, impl.MaxTerm+1), Vote: pick(r, -2, -1, 0, 4, 5), Base: pick(r, -1, 0, 0, 1, 1, impl.MaxIndex-1, impl.MaxIndex, impl.MaxIndex+1), BaseTerm: r.IntN(5) - 1}
	for range r.IntN(4) {
		w.Entries = append(w.Entries, impl.Entry{Term: pick(r, -1, 0, 1, 2, 2, 3, 3, 3, 4), Data: pick(r, "", "x")})
	}
	return w
}

func TestWalOkAgainstTheWords(t *testing.T) {
	r := rand.New(rand.NewPCG(5, 5))
	right := 0
	for range 200000 {
		w := someWal(r)
		want := slowWalOk(w)
		if want {
			right++
		}
		if impl.WalOk(w) != want {
			t.Fatalf("WalOk(%#v) = %v", w, !want)
		}
	}
	if right < 1000 {
		t.Errorf("only %d were right", right)
	}
}

// wantStep tells where WalStep answers otherwise than wanted, or writes into the Wal that it is handed; a right Wal must stay right.
func wantStep(t *testing.T, w impl.Wal, r impl.Rec, want impl.Wal, fits bool) impl.Wal {
	t.Helper()
	ahead := copyWal(w)
	got, ok := impl.WalStep(w, r)
	if !sameWal(got, want) || ok != fits {
		t.Fatalf("WalStep of %s\nby %s\n= %s, %v\nwant %s, %v", brief(ahead), brief(r), brief(got), ok, brief(want), fits)
	}
	if !sameWal(w, ahead) {
		t.Fatalf("WalStep of %s by %s made it %s", brief(ahead), brief(r), brief(w))
	}
	if slowWalOk(w) && !impl.WalOk(got) {
		t.Fatalf("WalStep of %s by %s = %s, that is not right", brief(ahead), brief(r), brief(got))
	}
	return got
}

// recsThatNeverFit are not RecOk, or of the kind that only a log begins with.
func recsThatNeverFit() []impl.Rec {
	return []impl.Rec{
		{},
		{Kind: 5},
		{Kind: 9},
		{Kind: -1},
		{Kind: impl.RcHard, Term: -1},
		{Kind: impl.RcHard, Term: impl.MaxTerm + 1},
		{Kind: impl.RcHard, Term: impl.MaxTerm, Vote: impl.MaxPeers},
		{Kind: impl.RcHard, Term: impl.MaxTerm, Index: 1},
		{Kind: impl.RcEntry, Index: 1},
		{Kind: impl.RcEntry, Term: 1, Index: impl.MaxIndex + 1},
		{Kind: impl.RcEntry, Term: 6, Index: 12, Data: strings.Repeat("x", impl.MaxData+1)},
		{Kind: impl.RcCut},
		{Kind: impl.RcCut, Index: 1, Term: 1},
		{Kind: impl.RcCut, Index: 8, Vote: -1},
		{Kind: impl.RcBase, Index: 1},
		{Kind: impl.RcBase},
		{Kind: impl.RcBase, Term: 1, Index: 1},
		{Kind: impl.RcBase, Term: 3, Index: 7},
	}
}

// Where the record and the Wal are wrong at once, the record is named first: any Wal is as it is.
func TestStepsThatNeverFitABadWal(t *testing.T) {
	for _, b := range badWals() {
		for _, r := range recsThatNeverFit() {
			wantStep(t, b.w, r, b.w, false)
		}
	}
}

// A record that is right may fit a Wal that is not, or not; each answer written out by hand.
func TestStepsOfABadWal(t *testing.T) {
	turn := func(change func(w *impl.Wal)) impl.Wal {
		w := richWal()
		change(&w)
		return w
	}
	term := turn(func(w *impl.Wal) { w.Term = impl.MaxTerm + 1 })
	vote := turn(func(w *impl.Wal) { w.Vote = impl.MaxPeers })
	base := turn(func(w *impl.Wal) { w.Base = -2 })
	far := turn(func(w *impl.Wal) { w.Base = math.MaxInt })
	deep := turn(func(w *impl.Wal) { w.Base = math.MinInt })
	falling := turn(func(w *impl.Wal) { w.Entries[3].Term = 4 })
	full := turn(func(w *impl.Wal) { w.Entries = sameEntries(impl.MaxLog+1, 3, "") })
	hard := func(term, vote int) impl.Rec { return impl.Rec{Kind: impl.RcHard, Term: term, Vote: vote} }
	entry := func(term, index int) impl.Rec { return impl.Rec{Kind: impl.RcEntry, Term: term, Index: index} }
	cut := func(index int) impl.Rec { return impl.Rec{Kind: impl.RcCut, Index: index} }
	for _, c := range []struct {
		w    impl.Wal
		r    impl.Rec
		fits bool
	}{
		{term, hard(impl.MaxTerm, 2), false}, {term, entry(6, 12), true}, {term, entry(6, 11), false}, {term, cut(8), true}, {term, cut(7), false},
		{vote, hard(7, 1), true}, {vote, hard(6, 2), false}, {vote, hard(6, -1), false}, {vote, hard(5, 2), false}, {vote, entry(7, 12), false}, {vote, entry(6, 12), true},
		{base, cut(1), true}, {base, cut(2), true}, {base, cut(3), false}, {base, entry(6, 3), true}, {base, entry(6, 2), false},
		{far, hard(6, 2), true}, {far, entry(6, 1), false}, {far, entry(6, impl.MaxIndex), false}, {far, cut(1), false}, {far, cut(impl.MaxIndex), false},
		{deep, hard(6, 2), true}, {deep, entry(6, 1), false}, {deep, cut(1), false}, {deep, cut(impl.MaxIndex), false},
		{falling, entry(3, 12), false}, {falling, entry(4, 12), true}, {falling, cut(11), true}, {falling, cut(12), false},
		{full, entry(3, 69), false}, {full, cut(68), true}, {full, cut(69), false}, {full, hard(6, 2), true}, {full, hard(6, 1), false},
	} {
		want := c.w
		if c.fits {
			want = impl.Wal{}
		}
		wantStep(t, c.w, c.r, want, false)
	}
}

// Wals and records put together by chance, each wrong or right, held against the words.
func TestStepsOfAnyWal(t *testing.T) {
	r := rand.New(rand.NewPCG(21, 5))
	zero, same, fitting := 0, 0, 0
	for range 100000 {
		w := someWal(r)
		rec := someStep(r, w)
		want, fits := slowStep(w, rec)
		wantStep(t, w, rec, want, fits)
		switch {
		case fits:
			fitting++
		case slowWalOk(w):
		case slowFits(w, rec):
			zero++
		default:
			same++
		}
	}
	if zero < 1000 || same < 1000 || fitting < 1000 {
		t.Errorf("of Wals that are not right %d came to nothing and %d stayed; %d records fitted", zero, same, fitting)
	}
	for _, b := range badWals() {
		for _, rec := range append(someRecs(), recsThatNeverFit()...) {
			want, _ := slowStep(b.w, rec)
			wantStep(t, b.w, rec, want, false)
		}
	}
}

// A log from its first record on, each answer written out by hand.
func TestWalStory(t *testing.T) {
	a, b, c := impl.Entry{Term: 2, Data: "a"}, impl.Entry{Term: 2}, impl.Entry{Term: 3, Data: "c"}
	w := impl.Wal{Term: 1, Vote: -1, Base: 4, BaseTerm: 1}
	for _, s := range []struct {
		r    impl.Rec
		want impl.Wal
	}{
		{impl.Rec{Kind: impl.RcHard, Term: 2, Vote: -1}, impl.Wal{Term: 2, Vote: -1, Base: 4, BaseTerm: 1}},
		{impl.Rec{Kind: impl.RcHard, Term: 2, Vote: 3}, impl.Wal{Term: 2, Vote: 3, Base: 4, BaseTerm: 1}},
		{impl.Rec{Kind: impl.RcHard, Term: 2, Vote: 3}, impl.Wal{Term: 2, Vote: 3, Base: 4, BaseTerm: 1}},
		{impl.Rec{Kind: impl.RcEntry, Term: 2, Index: 5, Data: "a"}, impl.Wal{Term: 2, Vote: 3, Base: 4, BaseTerm: 1, Entries: []impl.Entry{a}}},
		{impl.Rec{Kind: impl.RcEntry, Term: 2, Index: 6}, impl.Wal{Term: 2, Vote: 3, Base: 4, BaseTerm: 1, Entries: []impl.Entry{a, b}}},
		{impl.Rec{Kind: impl.RcHard, Term: 4, Vote: 0}, impl.Wal{Term: 4, Vote: 0, Base: 4, BaseTerm: 1, Entries: []impl.Entry{a, b}}},
		{impl.Rec{Kind: impl.RcEntry, Term: 3, Index: 7, Data: "c"}, impl.Wal{Term: 4, Vote: 0, Base: 4, BaseTerm: 1, Entries: []impl.Entry{a, b, c}}},
		{impl.Rec{Kind: impl.RcCut, Index: 6}, impl.Wal{Term: 4, Vote: 0, Base: 4, BaseTerm: 1, Entries: []impl.Entry{a}}},
		{impl.Rec{Kind: impl.RcEntry, Term: 3, Index: 6, Data: "c"}, impl.Wal{Term: 4, Vote: 0, Base: 4, BaseTerm: 1, Entries: []impl.Entry{a, c}}},
		{impl.Rec{Kind: impl.RcCut, Index: 5}, impl.Wal{Term: 4, Vote: 0, Base: 4, BaseTerm: 1}},
		{impl.Rec{Kind: impl.RcEntry, Term: 3, Index: 5, Data: "c"}, impl.Wal{Term: 4, Vote: 0, Base: 4, BaseTerm: 1, Entries: []impl.Entry{c}}},
	} {
		w = wantStep(t, w, s.r, s.want, true)
	}
}

func TestStepsThatDoNotFit(t *testing.T) {
	w := richWal()
	for _, r := range []impl.Rec{
		{Kind: impl.RcHard, Term: 5, Vote: 2},
		{Kind: impl.RcHard, Term: 5, Vote: -1},
		{Kind: impl.RcHard, Term: 6, Vote: -1},
		{Kind: impl.RcHard, Term: 6, Vote: 0},
		{Kind: impl.RcHard, Term: 6, Vote: 3},
		{Kind: impl.RcHard, Term: 0, Vote: 0},
		{Kind: impl.RcHard, Term: 7, Vote: 5},
		{Kind: impl.RcHard, Term: impl.MaxTerm + 1, Vote: 2},
		{Kind: impl.RcHard, Term: 7, Vote: 2, Index: 1},
		{Kind: impl.RcEntry, Term: 6, Index: 11},
		{Kind: impl.RcEntry, Term: 6, Index: 13},
		{Kind: impl.RcEntry, Term: 6, Index: 8},
		{Kind: impl.RcEntry, Term: 6, Index: 7},
		{Kind: impl.RcEntry, Term: 6, Index: 5},
		{Kind: impl.RcEntry, Term: 6, Index: 1},
		{Kind: impl.RcEntry, Term: 6, Index: impl.MaxIndex},
		{Kind: impl.RcEntry, Term: 5, Index: 12},
		{Kind: impl.RcEntry, Term: 7, Index: 12},
		{Kind: impl.RcEntry, Term: 6, Index: 12, Vote: 1},
		{Kind: impl.RcEntry, Term: 6, Index: 12, Data: strings.Repeat("x", impl.MaxData+1)},
		{Kind: impl.RcCut, Index: 12},
		{Kind: impl.RcCut, Index: 7},
		{Kind: impl.RcCut, Index: 4},
		{Kind: impl.RcCut, Index: 1},
		{Kind: impl.RcCut, Index: 0},
		{Kind: impl.RcCut, Index: impl.MaxIndex},
		{Kind: impl.RcCut, Index: 11, Term: 6},
		{Kind: impl.RcCut, Index: 11, Vote: -1},
		{Kind: impl.RcCut, Index: 11, Data: "x"},
		{Kind: impl.RcBase},
		{Kind: impl.RcBase, Term: 3, Index: 7},
		{Kind: impl.RcBase, Term: 6, Index: 11},
		{Kind: impl.RcBase, Term: 1, Index: 12},
		{Kind: 0, Term: 6, Index: 12},
		{Kind: 5, Term: 6, Index: 12},
		{Kind: -1},
		{},
	} {
		wantStep(t, w, r, w, false)
	}
}

func TestHardSteps(t *testing.T) {
	for _, c := range []struct {
		term, vote int // the Wal's
		t, v       int // the record's
		fits       bool
	}{
		{0, -1, 0, -1, true}, {0, -1, 0, 0, true}, {0, 0, 0, 0, true}, {0, 0, 0, -1, false}, {0, 0, 0, 1, false},
		{5, -1, 5, 4, true}, {5, -1, 5, -1, true}, {5, 3, 5, 3, true}, {5, 3, 5, 4, false}, {5, 3, 5, -1, false}, {5, 3, 5, 0, false},
		{5, 3, 6, -1, true}, {5, 3, 6, 4, true}, {5, 3, 6, 3, true}, {5, 3, impl.MaxTerm, 0, true},
		{5, 3, 4, 3, false}, {5, -1, 4, -1, false}, {5, -1, 0, -1, false},
		{impl.MaxTerm, -1, impl.MaxTerm, 1, true}, {impl.MaxTerm, 1, impl.MaxTerm, 2, false}, {impl.MaxTerm, 1, impl.MaxTerm + 1, 1, false},
	} {
		w := impl.Wal{Term: c.term, Vote: c.vote}
		want := w
		if c.fits {
			want = impl.Wal{Term: c.t, Vote: c.v}
		}
		wantStep(t, w, impl.Rec{Kind: impl.RcHard, Term: c.t, Vote: c.v}, want, c.fits)
	}
}

func TestEntrySteps(t *testing.T) {
	entry := func(term, index int) impl.Rec {
		return impl.Rec{Kind: impl.RcEntry, Term: term, Index: index, Data: "new"}
	}
	with := func(w impl.Wal, term int) impl.Wal {
		w.Entries = append(slices.Clone(w.Entries), impl.Entry{Term: term, Data: "new"})
		return w
	}
	// Where there is no Entry, BaseTerm is the least.
	w := impl.Wal{Term: 6, Vote: 2, Base: 7, BaseTerm: 3}
	wantStep(t, w, entry(2, 8), w, false)
	wantStep(t, w, entry(3, 8), with(w, 3), true)
	wantStep(t, w, entry(6, 8), with(w, 6), true)
	wantStep(t, w, entry(7, 8), w, false)
	wantStep(t, w, entry(3, 7), w, false)
	wantStep(t, w, entry(3, 9), w, false)
	// The last Entry's term is the least, not the first one's.
	w.Entries = entriesOf(3, 5)
	wantStep(t, w, entry(4, 10), w, false)
	wantStep(t, w, entry(5, 10), with(w, 5), true)
	wantStep(t, w, entry(6, 10), with(w, 6), true)
	wantStep(t, w, entry(7, 10), w, false)
	// From number 0 on.
	w = impl.Wal{Term: 1, Vote: -1}
	wantStep(t, w, entry(1, 1), with(w, 1), true)
	wantStep(t, w, entry(1, 2), w, false)
	wantStep(t, w, entry(2, 1), w, false)
	// At Term 0 no entry fits.
	w = impl.Wal{Vote: -1}
	wantStep(t, w, entry(1, 1), w, false)
	wantStep(t, w, entry(0, 1), w, false)
}

func TestEntryStepsAtTheLimits(t *testing.T) {
	entry := func(index int) impl.Rec {
		return impl.Rec{Kind: impl.RcEntry, Term: 2, Index: index, Data: strings.Repeat("y", impl.MaxData)}
	}
	w := impl.Wal{Term: 2, Vote: 1, Base: 10, BaseTerm: 1}
	for i := range impl.MaxLog {
		want := copyWal(w)
		want.Entries = append(want.Entries, impl.Entry{Term: 2, Data: entry(0).Data})
		w = wantStep(t, w, entry(11+i), want, true)
	}
	wantStep(t, w, entry(11+impl.MaxLog), w, false)
	w, _ = impl.WalStep(w, impl.Rec{Kind: impl.RcCut, Index: 10 + impl.MaxLog})
	if w, ok := impl.WalStep(w, entry(10+impl.MaxLog)); !ok || len(w.Entries) != impl.MaxLog {
		t.Errorf("%d Entries, %v", len(w.Entries), ok)
	}
	w = impl.Wal{Term: 2, Vote: 1, Base: impl.MaxIndex - 1, BaseTerm: 1}
	want := w
	want.Entries = []impl.Entry{{Term: 2, Data: entry(0).Data}}
	w = wantStep(t, w, entry(impl.MaxIndex), want, true)
	wantStep(t, w, entry(impl.MaxIndex+1), w, false)
	wantStep(t, w, entry(impl.MaxIndex), w, false)
}

func TestCutSteps(t *testing.T) {
	w := richWal()
	for left := range w.Entries {
		want := copyWal(w)
		want.Entries = want.Entries[:left]
		wantStep(t, w, impl.Rec{Kind: impl.RcCut, Index: w.Base + left + 1}, want, true)
	}
	empty := impl.Wal{Term: 6, Vote: 2, Base: 7, BaseTerm: 3}
	for index := range 12 {
		wantStep(t, empty, impl.Rec{Kind: impl.RcCut, Index: index}, empty, false)
	}
	last := impl.Wal{Term: 1, Base: impl.MaxIndex - 1, BaseTerm: 1, Entries: entriesOf(1)}
	wantStep(t, last, impl.Rec{Kind: impl.RcCut, Index: impl.MaxIndex}, impl.Wal{Term: 1, Base: impl.MaxIndex - 1, BaseTerm: 1}, true)
}

// someStep is a record that now fits the Wal and now just does not.
func someStep(r *rand.Rand, w impl.Wal) impl.Rec {
	last := w.Base + len(w.Entries)
	rec := impl.Rec{}
	switch r.IntN(40) {
	case 0, 1, 2, 3:
		rec = impl.Rec{Kind: impl.RcHard, Term: w.Term + pick(r, -1, 0, 0, 1, 1), Vote: pick(r, -1, -1, 0, 1, 4, w.Vote, w.Vote)}
	case 4, 5:
		rec = impl.Rec{Kind: impl.RcCut, Index: pick(r, w.Base, w.Base+1, last, last, last-1, last+1, w.Base+len(w.Entries)/2)}
	case 6:
		rec = impl.Rec{Kind: impl.RcBase, Term: w.BaseTerm, Index: w.Base}
	case 7:
		rec = impl.Rec{Kind: pick(r, -1, 0, 1, 2, 3, 4, 5), Term: pick(r, 0, 1, w.Term), Index: pick(r, 0, 1, last, last+1), Vote: pick(r, 0, 0, 1), Data: pick(r, "", "", "x")}
	default:
		rec = impl.Rec{Kind: impl.RcEntry, Term: pick(r, slowLastTerm(w), slowLastTerm(w), w.Term, w.Term, slowLastTerm(w)-1, w.Term+1), Index: pick(r, last+1, last+1, last+1, last+1, last+1, last, last+2), Data: pick(r, "", "x", "y", "zz")}
	}
	return rec
}

// someBase is a Wal without Entries, from which a walk begins.
func someBase(r *rand.Rand) impl.Wal {
	return pick(r,
		impl.Wal{Vote: -1},
		impl.Wal{Term: 1, Vote: -1, Base: 1, BaseTerm: 1},
		impl.Wal{Term: 5, Vote: -1, Base: 300, BaseTerm: 5},
		impl.Wal{Term: 2, Vote: -1, Base: impl.MaxIndex - 4, BaseTerm: 2},
		impl.Wal{Term: impl.MaxTerm - 2, Vote: -1, Base: 40, BaseTerm: impl.MaxTerm - 2},
	)
}

// Wals led on by many records, each held against the words.
func TestWalWalks(t *testing.T) {
	fitting, not, most := map[int]int{}, map[int]int{}, 0
	for seed := range uint64(80) {
		r := rand.New(rand.NewPCG(seed, 5))
		w := someBase(r)
		for range 400 {
			rec := someStep(r, w)
			want, fits := slowStep(w, rec)
			if fits {
				fitting[rec.Kind]++
			} else {
				not[rec.Kind]++
			}
			w = wantStep(t, w, rec, want, fits)
			most = max(most, len(w.Entries))
		}
	}
	for _, kind := range []int{impl.RcHard, impl.RcEntry, impl.RcCut, impl.RcBase} {
		if not[kind] < 100 || kind != impl.RcBase && fitting[kind] < 100 {
			t.Errorf("kind %d fitted %d times, and %d times not", kind, fitting[kind], not[kind])
		}
	}
	if fitting[impl.RcBase] != 0 || most != impl.MaxLog {
		t.Errorf("RcBase fitted %d times; %d Entries at most", fitting[impl.RcBase], most)
	}
}

// wantReplay holds Replay against what is wanted.
func wantReplay(t *testing.T, name, text string, want impl.Wal, wantUsed int, right bool) {
	t.Helper()
	w, used, ok := impl.Replay(text)
	if !sameWal(w, want) || used != wantUsed || ok != right {
		t.Fatalf("%s: Replay = %s, %d, %v\nwant %s, %d, %v", name, brief(w), used, ok, brief(want), wantUsed, right)
	}
}

// slowReplayed holds Replay against the words.
func slowReplayed(t *testing.T, name, text string) {
	t.Helper()
	w, used, ok := slowReplay(text)
	wantReplay(t, name, text, w, used, ok)
}

func TestWalTextBytes(t *testing.T) {
	w := impl.Wal{Term: 6, Vote: 2, Base: 7, BaseTerm: 3, Entries: []impl.Entry{{Term: 3, Data: "ab"}, {Term: 5}}}
	want := slowFrame("\x04\x03\x07\x01") + slowFrame("\x01\x06\x00\x03") + slowFrame("\x02\x03\x08\x01ab") + slowFrame("\x02\x05\x09\x01")
	if s := impl.WalText(w); s != want {
		t.Errorf("WalText = %q, want %q", s, want)
	}
	want = slowFrame("\x04\x00\x00\x01") + slowFrame("\x01\x00\x00\x00")
	if s := impl.WalText(impl.Wal{Vote: -1}); s != want {
		t.Errorf("WalText = %q, want %q", s, want)
	}
	want = slowFrame("\x04\x00\x00\x01") + slowFrame("\x01\x00\x00\x01")
	if s := impl.WalText(impl.Wal{}); s != want {
		t.Errorf("WalText = %q, want %q", s, want)
	}
}

func TestWalTextIsReplayed(t *testing.T) {
	for _, w := range rightWals() {
		text := impl.WalText(w)
		if text != slowWalText(w) {
			t.Fatalf("WalText(%s) = %s", brief(w), brief(text))
		}
		wantReplay(t, "a whole log", text, w, len(text), true)
	}
}

// No more than the record that is cut goes; without the first one there is nothing.
func TestReplayCutOff(t *testing.T) {
	for _, w := range rightWals() {
		text := impl.WalText(w)
		recs := wholeRecs(w)
		ends := []int{0}
		states := []impl.Wal{{}, {Term: w.BaseTerm, Vote: -1, Base: w.Base, BaseTerm: w.BaseTerm}}
		for i, r := range recs {
			ends = append(ends, ends[i]+8+len(rawRec(r)))
			if i > 0 {
				next := w
				next.Entries = w.Entries[:i-1]
				states = append(states, next)
			}
		}
		for many := range len(text) + 1 {
			// Of a long log all places in its last records, and some of the others.
			if many < len(text)-1000 && len(text) > 3000 && many%97 != 0 {
				continue
			}
			whole := 0
			for whole+1 < len(ends) && ends[whole+1] <= many {
				whole++
			}
			wantReplay(t, fmt.Sprintf("cut to %d bytes", many), text[:many], states[whole], ends[whole], whole > 0)
		}
	}
}

// Each byte of the last record, and of the one ahead of it, is cut off or changed: what stands ahead is Replayed.
func TestReplayLastRecords(t *testing.T) {
	w := richWal()
	w.Entries = append(w.Entries, impl.Entry{Term: 6, Data: strings.Repeat("long", 200)})
	text := impl.WalText(w)
	shorter := func(by int) (impl.Wal, int) {
		x := w
		x.Entries = w.Entries[:len(w.Entries)-by]
		return x, len(impl.WalText(x))
	}
	last, lastAt := shorter(1)
	ahead, aheadAt := shorter(2)
	for at := lastAt; at < len(text); at++ {
		wantReplay(t, "a byte of the last record is cut", text[:at], last, lastAt, true)
		wantReplay(t, "a byte of the last record is another one", withByte(text, at, text[at]^0x40), last, lastAt, true)
	}
	for at := aheadAt; at < lastAt; at++ {
		wantReplay(t, "a byte of the record ahead is another one", withByte(text, at, text[at]^0x01), ahead, aheadAt, true)
	}
}

// What stands behind a whole log and is none of it changes nothing, and nothing behind it counts.
func TestReplayWhatStandsBehind(t *testing.T) {
	w := richWal()
	text := impl.WalText(w)
	fitting := logOf(impl.Rec{Kind: impl.RcEntry, Term: 6, Index: 12, Data: "new"}, impl.Rec{Kind: impl.RcHard, Term: 7, Vote: 1}, impl.Rec{Kind: impl.RcCut, Index: 9})
	behind := []string{"\x00", "\x00\x00", "\x00\x00\x00\x00", "\x00\x00\x00\x05", "garbage", "\xff\xff\xff\xff", strings.Repeat("\x00", 100), fitting[1:], withByte(fitting, 9, 'x')}
	for _, body := range []string{"x", "\x00", "\x02", "\x02\x06\x0c", "\x05\x06\x0c\x01", "\x00\x06\x0c\x01", "\x02\x86\x00\x0c\x01", "\x02\x06\x0c\x00", "\x03\x00\x0b\x01x", "\x01\x07\x00\x07", strings.Repeat("\x02", impl.MaxBody), "\x02\x06\x0c\x01" + strings.Repeat("x", impl.MaxData+1)} {
		behind = append(behind, slowFrame(body))
	}
	for _, r := range []impl.Rec{
		{Kind: impl.RcHard, Term: 5, Vote: 2}, {Kind: impl.RcHard, Term: 6, Vote: 1}, {Kind: impl.RcHard, Term: 6, Vote: -1},
		{Kind: impl.RcEntry, Term: 6, Index: 11}, {Kind: impl.RcEntry, Term: 6, Index: 13}, {Kind: impl.RcEntry, Term: 5, Index: 12}, {Kind: impl.RcEntry, Term: 7, Index: 12},
		{Kind: impl.RcCut, Index: 7}, {Kind: impl.RcCut, Index: 12},
		{Kind: impl.RcBase}, {Kind: impl.RcBase, Term: 3, Index: 7}, {Kind: impl.RcBase, Term: 6, Index: 11},
	} {
		behind = append(behind, logOf(r))
	}
	for _, s := range behind {
		wantReplay(t, brief(s), text+s, w, len(text), true)
		wantReplay(t, brief(s)+" and records that fit", text+s+fitting, w, len(text), true)
		wantReplay(t, brief(s)+" and the log again", text+s+text, w, len(text), true)
	}
	// The same records fit where nothing stands between.
	want := impl.Wal{Term: 7, Vote: 1, Base: 7, BaseTerm: 3, Entries: w.Entries[:1]}
	wantReplay(t, "records that fit", text+fitting, want, len(text)+len(fitting), true)
	wantReplay(t, "records that fit, and a byte", text+fitting+"x", want, len(text)+len(fitting), true)
	wantReplay(t, "the log again", text+text, w, len(text), true)
}

func TestReplayBeginsWithABase(t *testing.T) {
	for _, c := range []struct {
		r    impl.Rec
		want impl.Wal
	}{
		{impl.Rec{Kind: impl.RcBase}, impl.Wal{Vote: -1}},
		{impl.Rec{Kind: impl.RcBase, Term: 1, Index: 1}, impl.Wal{Term: 1, Vote: -1, Base: 1, BaseTerm: 1}},
		{impl.Rec{Kind: impl.RcBase, Term: 9, Index: 4}, impl.Wal{Term: 9, Vote: -1, Base: 4, BaseTerm: 9}},
		{impl.Rec{Kind: impl.RcBase, Term: impl.MaxTerm, Index: impl.MaxIndex}, impl.Wal{Term: impl.MaxTerm, Vote: -1, Base: impl.MaxIndex, BaseTerm: impl.MaxTerm}},
	} {
		text := logOf(c.r)
		wantReplay(t, brief(c.r), text, c.want, len(text), true)
		wantReplay(t, brief(c.r)+" twice", text+text, c.want, len(text), true)
	}
	base := logOf(impl.Rec{Kind: impl.RcBase})
	for _, text := range []string{
		"x", "\x00\x00\x00\x04", base[:len(base)-1], base[1:], "x" + base,
		logOf(impl.Rec{Kind: impl.RcHard, Term: 1}), logOf(impl.Rec{Kind: impl.RcEntry, Term: 1, Index: 1}), logOf(impl.Rec{Kind: impl.RcCut, Index: 1}),
		slowFrame("x"), slowFrame("\x04\x00\x00\x00"), slowFrame("\x04\x01\x00\x01"), slowFrame("\x04\x00\x01\x01"), slowFrame("\x04\x00\x00\x01x"), slowFrame("\x04\x00\x00"), slowFrame("\x05\x00\x00\x01"),
		slowFrame("\x04\xa1\x8d\x06\x01\x01"), slowFrame("\x04\x01\xa1\x8d\x06\x01"),
	} {
		wantReplay(t, brief(text), text, impl.Wal{}, 0, false)
		wantReplay(t, brief(text)+" and a log", text+impl.WalText(richWal()), impl.Wal{}, 0, false)
	}
	wantReplay(t, "no byte", "", impl.Wal{}, 0, false)
}

// A log that is long since much of it was cut again.
func TestReplayLongLog(t *testing.T) {
	recs := []impl.Rec{{Kind: impl.RcBase, Term: 2, Index: 5}}
	for term := 2; term < 60; term++ {
		recs = append(recs, impl.Rec{Kind: impl.RcHard, Term: term, Vote: term % impl.MaxPeers})
		for i := range impl.MaxLog {
			recs = append(recs, impl.Rec{Kind: impl.RcEntry, Term: term, Index: 6 + i, Data: strings.Repeat("x", term)})
		}
		recs = append(recs, impl.Rec{Kind: impl.RcCut, Index: 6})
	}
	recs = append(recs, impl.Rec{Kind: impl.RcEntry, Term: 59, Index: 6, Data: "end"})
	text := logOf(recs...)
	want := impl.Wal{Term: 59, Vote: 4, Base: 5, BaseTerm: 2, Entries: []impl.Entry{{Term: 59, Data: "end"}}}
	wantReplay(t, "a long log", text, want, len(text), true)
}

// Logs of records that come by chance, some of them fitting, with bytes changed and cut.
func TestReplayAgainstTheWords(t *testing.T) {
	for seed := range uint64(300) {
		r := rand.New(rand.NewPCG(seed, 55))
		w := someBase(r)
		recs := wholeRecs(w)
		for range r.IntN(100) {
			rec := someStep(r, w)
			next, fits := slowStep(w, rec)
			if fits || slowRecOk(rec) && r.IntN(40) == 0 {
				recs = append(recs, rec)
				w = next
			}
		}
		text := logOf(recs...)
		slowReplayed(t, "records", text)
		for range 20 {
			at := r.IntN(len(text))
			slowReplayed(t, "cut", text[:at])
			slowReplayed(t, "changed", withByte(text, at, byte(r.IntN(256))))
			slowReplayed(t, "a part twice", text[:at]+text)
		}
	}
}

// wantChanges holds Changes against what is wanted; they are applied one by one, and written behind the log of a.
func wantChanges(t *testing.T, a, b impl.Wal, want []impl.Rec, right bool) {
	t.Helper()
	wasA, wasB := copyWal(a), copyWal(b)
	l, ok := impl.Changes(a, b)
	if !slices.Equal(l, want) || ok != right {
		t.Fatalf("Changes of %s\nto %s\n= %s, %v\nwant %s, %v", brief(a), brief(b), brief(l), ok, brief(want), right)
	}
	if !sameWal(a, wasA) || !sameWal(b, wasB) {
		t.Fatalf("Changes of %s to %s wrote into them", brief(wasA), brief(wasB))
	}
	if !ok {
		return
	}
	w, text := a, impl.WalText(a)
	for i, r := range l {
		fits := false
		if w, fits = impl.WalStep(w, r); !fits {
			t.Fatalf("change %d of %s to %s, %s, does not fit", i, brief(a), brief(b), brief(r))
		}
		text += impl.Frame(impl.ShowRec(r))
	}
	if !sameWal(w, b) {
		t.Fatalf("Changes of %s\nlead to %s\nnot to %s", brief(a), brief(w), brief(b))
	}
	wantReplay(t, "the log with its changes", text, b, len(text), true)
}

func TestChanges(t *testing.T) {
	hard := func(term, vote int) impl.Rec { return impl.Rec{Kind: impl.RcHard, Term: term, Vote: vote} }
	entry := func(term, index int, data string) impl.Rec {
		return impl.Rec{Kind: impl.RcEntry, Term: term, Index: index, Data: data}
	}
	cut := func(index int) impl.Rec { return impl.Rec{Kind: impl.RcCut, Index: index} }
	wal := func(term, vote int, entries ...impl.Entry) impl.Wal {
		return impl.Wal{Term: term, Vote: vote, Base: 7, BaseTerm: 3, Entries: entries}
	}
	a, b, c, d := impl.Entry{Term: 3, Data: "a"}, impl.Entry{Term: 4, Data: "b"}, impl.Entry{Term: 4, Data: "c"}, impl.Entry{Term: 6, Data: "b"}
	for _, x := range []struct {
		from, to impl.Wal
		want     []impl.Rec
		right    bool
	}{
		{wal(6, 2, a, b), wal(6, 2, a, b), nil, true},
		{wal(6, 2), wal(6, 2), nil, true},
		{wal(6, 2, a, b), wal(7, 2, a, b), []impl.Rec{hard(7, 2)}, true},
		{wal(6, 2, a, b), wal(7, -1, a, b), []impl.Rec{hard(7, -1)}, true},
		{wal(6, -1, a, b), wal(6, 4, a, b), []impl.Rec{hard(6, 4)}, true},
		{wal(6, -1), wal(6, 0), []impl.Rec{hard(6, 0)}, true},
		{wal(6, 2, a, b), wal(6, 2, a), []impl.Rec{cut(9)}, true},
		{wal(6, 2, a, b), wal(6, 2), []impl.Rec{cut(8)}, true},
		{wal(6, 2, a), wal(6, 2, a, b), []impl.Rec{entry(4, 9, "b")}, true},
		{wal(6, 2), wal(6, 2, a, b), []impl.Rec{entry(3, 8, "a"), entry(4, 9, "b")}, true},
		{wal(6, 2, a, b), wal(6, 2, a, c), []impl.Rec{cut(9), entry(4, 9, "c")}, true},
		{wal(6, 2, a, b), wal(6, 2, a, d), []impl.Rec{cut(9), entry(6, 9, "b")}, true},
		{wal(6, 2, a, d), wal(6, 2, a, b, c), []impl.Rec{cut(9), entry(4, 9, "b"), entry(4, 10, "c")}, true},
		// What is alike behind one that is not is written again.
		{wal(6, 2, a, b, d), wal(6, 2, a, c, d), []impl.Rec{cut(9), entry(4, 9, "c"), entry(6, 10, "b")}, true},
		{wal(5, 2, a, b), wal(6, 1, b, d), []impl.Rec{hard(6, 1), cut(8), entry(4, 8, "b"), entry(6, 9, "b")}, true},
		{wal(5, 2), wal(6, 2, d), []impl.Rec{hard(6, 2), entry(6, 8, "b")}, true},
		// The term goes back, the vote is another one.
		{wal(6, 2, a), wal(5, 2, a), nil, false},
		{wal(6, -1, a), wal(5, -1, a, b), nil, false},
		{wal(6, 2, a), wal(6, 1, a), nil, false},
		{wal(6, 2, a), wal(6, -1, a), nil, false},
		{wal(6, 0), wal(6, 1, a), nil, false},
		// Base or BaseTerm differ.
		{wal(6, 2), impl.Wal{Term: 6, Vote: 2, Base: 8, BaseTerm: 3}, nil, false},
		{wal(6, 2), impl.Wal{Term: 6, Vote: 2, Base: 7, BaseTerm: 4}, nil, false},
		{wal(6, 2), impl.Wal{Term: 6, Vote: 2}, nil, false},
		{impl.Wal{Term: 6, Vote: 2}, wal(6, 2), nil, false},
		{wal(6, 2, a), impl.Wal{Term: 6, Vote: 2, Base: 8, BaseTerm: 3}, nil, false},
	} {
		wantChanges(t, x.from, x.to, x.want, x.right)
	}
	from := impl.Wal{Term: 1, Vote: -1, Base: impl.MaxIndex - 1, BaseTerm: 1, Entries: []impl.Entry{{Term: 1, Data: "x"}}}
	to := impl.Wal{Term: impl.MaxTerm, Vote: 4, Base: impl.MaxIndex - 1, BaseTerm: 1, Entries: []impl.Entry{{Term: impl.MaxTerm, Data: "y"}}}
	wantChanges(t, from, to, []impl.Rec{hard(impl.MaxTerm, 4), cut(impl.MaxIndex), entry(impl.MaxTerm, impl.MaxIndex, "y")}, true)
}

func TestChangesOfFullWals(t *testing.T) {
	full := strings.Repeat("x", impl.MaxData)
	a := impl.Wal{Term: 1, Vote: 0, Entries: sameEntries(impl.MaxLog, 1, full)}
	b := impl.Wal{Term: 2, Vote: 0, Entries: sameEntries(impl.MaxLog, 2, full[1:]+"y")}
	l, ok := impl.Changes(a, b)
	if !ok || len(l) != 2+impl.MaxLog {
		t.Errorf("%d changes, %v", len(l), ok)
	}
	want, right := slowChanges(a, b)
	wantChanges(t, a, b, want, right)
	// The last Entry alone differs, in its last byte.
	b = copyWal(a)
	b.Entries[impl.MaxLog-1].Data = full[1:] + "y"
	wantChanges(t, a, b, []impl.Rec{{Kind: impl.RcCut, Index: impl.MaxLog}, {Kind: impl.RcEntry, Term: 1, Index: impl.MaxLog, Data: full[1:] + "y"}}, true)
}

// All pairs of the right Wals, and of those that walks lead to from few bases.
func TestChangesOfAllPairs(t *testing.T) {
	wals := rightWals()
	for seed := range uint64(60) {
		r := rand.New(rand.NewPCG(seed, 555))
		w := pick(r, impl.Wal{Vote: -1}, impl.Wal{Term: 1, Vote: -1, Base: 1, BaseTerm: 1})
		for range 25 {
			w, _ = slowStep(w, someStep(r, w))
		}
		wals = append(wals, w)
	}
	some := 0
	for _, a := range wals {
		for _, b := range wals {
			want, right := slowChanges(a, b)
			wantChanges(t, a, b, want, right)
			if right {
				some++
			}
		}
	}
	if some < 500 || some > len(wals)*len(wals)-500 {
		t.Errorf("%d of %d pairs have changes", some, len(wals)*len(wals))
	}
}

// spareWal is the Wal with room behind its Entries, and what stands there.
func spareWal(w impl.Wal) impl.Wal {
	w.Entries = append(slices.Clone(w.Entries), impl.Entry{Term: 77}, impl.Entry{Term: 78})[:len(w.Entries)]
	return w
}

// withRoom is the Wal with what stands behind its Entries.
func withRoom(w impl.Wal) impl.Wal {
	w.Entries = w.Entries[:len(w.Entries)+2]
	return w
}

func TestWalAnswersNewMemory(t *testing.T) {
	// The last one is not right, and is to be handed back in new memory all the same.
	wrong := richWal()
	wrong.Vote = impl.MaxPeers
	for _, ahead := range []impl.Wal{richWal(), {Term: 6, Vote: -1, Base: 11, BaseTerm: 6}, wrong} {
		for _, r := range append(someRecs(), impl.Rec{Kind: impl.RcCut, Index: 9}) {
			w := spareWal(ahead)
			first, _ := impl.WalStep(w, r)
			kept := copyWal(first)
			second, _ := impl.WalStep(w, r)
			for i := range second.Entries[:cap(second.Entries)] {
				second.Entries[:cap(second.Entries)][i] = impl.Entry{Term: 99}
			}
			if !sameWal(withRoom(w), withRoom(spareWal(ahead))) {
				t.Fatalf("WalStep by %#v wrote into its argument, or its answer is part of it: %#v", r, withRoom(w))
			}
			for i := range w.Entries {
				w.Entries[i] = impl.Entry{Term: 98}
			}
			if !sameWal(first, kept) {
				t.Fatalf("WalStep by %#v: the answer hangs on its argument, or on another answer: %#v", r, first)
			}
		}
	}
	a, b := spareWal(richWal()), spareWal(impl.Wal{Term: 7, Vote: -1, Base: 7, BaseTerm: 3, Entries: entriesOf(3, 7, 7)})
	impl.WalOk(a)
	impl.WalText(a)
	l, _ := impl.Changes(a, b)
	if !sameWal(withRoom(a), withRoom(spareWal(richWal()))) || !sameWal(withRoom(b), withRoom(spareWal(impl.Wal{Term: 7, Vote: -1, Base: 7, BaseTerm: 3, Entries: entriesOf(3, 7, 7)}))) {
		t.Fatalf("WalOk, WalText or Changes wrote into an argument: %#v, %#v", withRoom(a), withRoom(b))
	}
	kept := slices.Clone(l)
	for i := range b.Entries {
		b.Entries[i] = impl.Entry{Term: 99}
	}
	if !slices.Equal(l, kept) {
		t.Fatalf("Changes hang on their argument: %#v", l)
	}
}

// sharesBytes asks whether the bytes of a lie among those of b.
func sharesBytes(a, b string) bool {
	if a == "" || b == "" {
		return false
	}
	at, from := uintptr(unsafe.Pointer(unsafe.StringData(a))), uintptr(unsafe.Pointer(unsafe.StringData(b)))
	return at >= from && at < from+uintptr(len(b))
}

func TestWalAnswersNewTexts(t *testing.T) {
	w := richWal()
	rec := impl.Rec{Kind: impl.RcEntry, Term: 6, Index: 12, Data: "long enough"}
	shown, text := impl.ShowRec(rec), impl.WalText(w)
	if r, ok := impl.ReadRec(shown); !ok || sharesBytes(r.Data, shown) {
		t.Errorf("ReadRec hands out bytes of its argument, or none: %#v", r)
	}
	x, _, _ := impl.Replay(text)
	for _, e := range x.Entries {
		if sharesBytes(e.Data, text) {
			t.Errorf("Replay hands out bytes of its argument: %#v", e)
		}
	}
	x, ok := impl.WalStep(w, rec)
	if !ok || sharesBytes(x.Entries[4].Data, rec.Data) {
		t.Errorf("WalStep hands out bytes of the record, or does not take it: %#v", x)
	}
	for i, e := range w.Entries {
		if sharesBytes(x.Entries[i].Data, e.Data) {
			t.Errorf("WalStep hands out bytes of the Wal: %#v", e)
		}
	}
	bad := richWal()
	bad.Term = -1
	x, _ = impl.WalStep(bad, impl.Rec{Kind: 9})
	for i, e := range bad.Entries {
		if sharesBytes(x.Entries[i].Data, e.Data) {
			t.Errorf("WalStep hands out bytes of a Wal that is not right: %#v", e)
		}
	}
	l, _ := impl.Changes(impl.Wal{Term: 6, Vote: 2, Base: 7, BaseTerm: 3}, w)
	for i, r := range l {
		if sharesBytes(r.Data, w.Entries[i].Data) {
			t.Errorf("Changes hand out bytes of the Wal: %#v", r)
		}
	}
}
