package tests

import (
	"fmt"
	"math"
	"math/rand/v2"
	"slices"
	"strings"
	"testing"

	"loop.example/g00360/impl"
)

// Promise 6: wherever the steps of a plan end, and whatever a Crash takes behind them, the old log and snapshot are told or the new ones, the new ones if all were done; of records that are added a beginning, all of them if they were synced.

// The slow functions do the document's words with plain lists, to be held against the program.

func slowSnapOk(s impl.Snap) bool {
	return within(s.Index, 1, 100000) && within(s.Term, 1, 100000) && len(s.Data) <= 30000 || s == impl.Snap{}
}

// rawSnap is how a snapshot would be shown, right or not.
func rawSnap(s impl.Snap) string {
	return slowFrame(fourBytes(s.Index)+fourBytes(s.Term)+fourBytes(len(s.Data))+fourBytes(slowCrc(s.Data))) + s.Data
}

func slowShowSnap(s impl.Snap) string {
	if !slowSnapOk(s) || s == (impl.Snap{}) {
		return ""
	}
	return rawSnap(s)
}

// slowNumber is the number that four bytes tell.
func slowNumber(s string) int {
	return int(s[0])<<24 + int(s[1])<<16 + int(s[2])<<8 + int(s[3])
}

// slowReadSnap reads the text loosely, and takes what is shown as it again.
func slowReadSnap(text string) (impl.Snap, bool) {
	if len(text) < 24 {
		return impl.Snap{}, false
	}
	s := impl.Snap{Index: slowNumber(text[8:]), Term: slowNumber(text[12:]), Data: text[24:]}
	if s == (impl.Snap{}) || !slowSnapOk(s) || rawSnap(s) != text {
		return impl.Snap{}, false
	}
	return s, true
}

// callOf is the call of the disk that a step stands for.
func callOf(s impl.Step) diskCall {
	c := diskCall{slow: func(d impl.Disk) (impl.Disk, int) { return d, impl.DkBad }}
	switch s.Kind {
	case impl.StMake:
		c = callMake(s.Name)
	case impl.StAdd:
		c = callAdd(s.Name, s.Data)
	case impl.StSync:
		c = callSync(s.Name)
	case impl.StName:
		c = callRename(s.Name, s.To)
	case impl.StDrop:
		c = callDrop(s.Name)
	case impl.StDir:
		c = callSyncDir()
	}
	c.name = "DoStep of " + brief(s)
	c.do = func(d impl.Disk) (impl.Disk, int) { return impl.DoStep(d, s) }
	return c
}

func slowDoSteps(d impl.Disk, steps []impl.Step, n int) (impl.Disk, int, int) {
	if len(steps) > 20 {
		return d, 0, impl.DkBad
	}
	if !slowRight(d) {
		return impl.Disk{}, 0, impl.DkBad
	}
	done := 0
	for done < n && done < len(steps) {
		next, code := callOf(steps[done]).slow(copyDisk(d))
		if code != impl.DkOk {
			return d, done, code
		}
		d = next
		done++
	}
	return d, done, impl.DkOk
}

func slowHas(d impl.Disk, name string) bool {
	return slowAt(slowNow(d), name) >= 0
}

func slowPlanAdd(a, b impl.Wal) []impl.Step {
	recs, ok := slowChanges(a, b)
	if !ok || len(recs) == 0 {
		return nil
	}
	return []impl.Step{{Kind: impl.StAdd, Name: "log", Data: logOf(recs...)}, {Kind: impl.StSync, Name: "log"}}
}

// slowReplace is a plan's part of one file.
func slowReplace(d impl.Disk, name, text string) []impl.Step {
	l := []impl.Step{{Kind: impl.StDrop, Name: name + ".new"}, {Kind: impl.StMake, Name: name + ".new"}, {Kind: impl.StAdd, Name: name + ".new", Data: text}, {Kind: impl.StSync, Name: name + ".new"}, {Kind: impl.StName, Name: name + ".new", To: name}, {Kind: impl.StDir}}
	if !slowHas(d, name+".new") {
		return l[1:]
	}
	return l
}

func slowPlanLog(d impl.Disk, w impl.Wal) []impl.Step {
	if !slowRight(d) || !slowWalOk(w) {
		return nil
	}
	return slowReplace(d, "log", slowWalText(w))
}

func slowPlanSnap(d impl.Disk, s impl.Snap, w impl.Wal) []impl.Step {
	if !slowRight(d) || !slowWalOk(w) || slowShowSnap(s) == "" {
		return nil
	}
	return append(slowReplace(d, "snap", slowShowSnap(s)), slowPlanLog(d, w)...)
}

// slowBehind is the log behind the snapshot, where that is later.
func slowBehind(w impl.Wal, s impl.Snap) impl.Wal {
	if s.Index <= w.Base {
		return w
	}
	x := impl.Wal{Term: w.Term, Vote: w.Vote, Base: s.Index, BaseTerm: s.Term}
	if w.Term < s.Term {
		x.Term, x.Vote = s.Term, -1
	}
	same := false
	for i, e := range w.Entries {
		if same {
			x.Entries = append(x.Entries, e)
		}
		if w.Base+i+1 == s.Index && e.Term == s.Term {
			same = true
		}
	}
	return x
}

func slowRecover(d impl.Disk) (impl.Kept, int) {
	if !slowRight(d) {
		return impl.Kept{}, impl.KpBad
	}
	if !slowHas(d, "log") {
		return impl.Kept{}, impl.KpNone
	}
	log := d.Inodes[slowFile(d, "log")].Data
	w, used, ok := slowReplay(log)
	s := impl.Snap{}
	if ok && slowHas(d, "snap") {
		s, ok = slowReadSnap(d.Inodes[slowFile(d, "snap")].Data)
	}
	if !ok || w.Base > s.Index || w.Base == s.Index && w.BaseTerm != s.Term {
		return impl.Kept{}, impl.KpBad
	}
	dirty := len(log) > used || s.Index > w.Base || slowHas(d, "log.new") || slowHas(d, "snap.new")
	return impl.Kept{Wal: slowBehind(w, s), Snap: s, Dirty: dirty}, impl.KpOk
}

func sameKept(a, b impl.Kept) bool {
	return sameWal(a.Wal, b.Wal) && a.Snap == b.Snap && a.Dirty == b.Dirty
}

// wantRecover tells where Recover answers otherwise, or writes into its argument; what is told must be right.
func wantRecover(t *testing.T, name string, d impl.Disk, want impl.Kept, wantCode int) {
	t.Helper()
	ahead := copyDisk(d)
	k, code := impl.Recover(d)
	if !sameKept(k, want) || code != wantCode {
		t.Fatalf("%s: Recover of %s\n= %s, %d\nwant %s, %d", name, brief(d), brief(k), code, brief(want), wantCode)
	}
	if !sameDisk(d, ahead) {
		t.Fatalf("%s: Recover wrote into the disk: %s, now %s", name, brief(ahead), brief(d))
	}
	if !slowWalOk(k.Wal) || !slowSnapOk(k.Snap) {
		t.Fatalf("%s: Recover of %s tells what is not right: %s", name, brief(d), brief(k))
	}
}

// filesDisk has these files, their names and all their bytes safe.
func filesDisk(files map[string]string) impl.Disk {
	d := impl.Disk{Room: impl.MaxRoom, Next: 1}
	for name := range files {
		d.Dir = append(d.Dir, impl.Link{Name: name})
	}
	slices.SortFunc(d.Dir, func(a, b impl.Link) int { return strings.Compare(a.Name, b.Name) })
	for i, l := range d.Dir {
		d.Inodes = append(d.Inodes, impl.Inode{Id: d.Next, Data: files[l.Name], Sure: len(files[l.Name])})
		d.Dir[i].Id = d.Next
		d.Next++
	}
	return d
}

// keptFiles are the files of a log and a snapshot; the zero Snap has none.
func keptFiles(w impl.Wal, s impl.Snap) map[string]string {
	files := map[string]string{"log": slowWalText(w)}
	if s != (impl.Snap{}) {
		files["snap"] = slowShowSnap(s)
	}
	return files
}

// keptDisk has a log and a snapshot, and files beside them.
func keptDisk(w impl.Wal, s impl.Snap, more ...string) impl.Disk {
	files := keptFiles(w, s)
	for _, name := range more {
		files[name] = "left of " + name
	}
	return filesDisk(files)
}

// snapOf is the snapshot that richWal stands behind.
func snapOf() impl.Snap {
	return impl.Snap{Index: 7, Term: 3, Data: "seven"}
}

func TestKeepConstants(t *testing.T) {
	got := []int{impl.MaxSnap, impl.MaxSteps, impl.StMake, impl.StAdd, impl.StSync, impl.StName, impl.StDrop, impl.StDir, impl.KpOk, impl.KpNone, impl.KpBad}
	if want := []int{30000, 20, 1, 2, 3, 4, 5, 6, 0, 1, 2}; !slices.Equal(got, want) {
		t.Errorf("%v, want %v", got, want)
	}
}

func TestShowSnapBytes(t *testing.T) {
	for _, c := range []struct {
		s    impl.Snap
		want string
	}{
		{impl.Snap{Index: 1, Term: 1}, "\x00\x00\x00\x10\x94\x39\xd0\xd6\x00\x00\x00\x01\x00\x00\x00\x01\x00\x00\x00\x00\x00\x00\x00\x00"},
		{impl.Snap{Index: 2, Term: 300, Data: "Snap"}, "\x00\x00\x00\x10\x75\x29\xa8\xfe\x00\x00\x00\x02\x00\x00\x01\x2c\x00\x00\x00\x04\x45\xe0\x76\x47Snap"},
		{impl.Snap{Index: impl.MaxIndex, Term: impl.MaxTerm, Data: "\x00\xff"}, "\x00\x00\x00\x10\x96\x9d\x39\x57\x00\x01\x86\xa0\x00\x01\x86\xa0\x00\x00\x00\x02\x5c\x1c\x24\x83\x00\xff"},
	} {
		if text := impl.ShowSnap(c.s); text != c.want {
			t.Errorf("ShowSnap(%#v) = %q, want %q", c.s, text, c.want)
		}
		if s, ok := impl.ReadSnap(c.want); !ok || s != c.s {
			t.Errorf("ReadSnap(%q) = %#v, %v, want %#v", c.want, s, ok, c.s)
		}
		if !impl.SnapOk(c.s) {
			t.Errorf("SnapOk(%#v) = false", c.s)
		}
	}
}

// wantSnap holds a snapshot against SnapOk, ShowSnap and ReadSnap; none is one that is right and shown as nothing.
func wantSnap(t *testing.T, s impl.Snap, right bool) {
	t.Helper()
	if ok := impl.SnapOk(s); ok != right {
		t.Fatalf("SnapOk(%s) = %v", brief(s), ok)
	}
	shown := right && s != impl.Snap{}
	want := ""
	if shown {
		want = rawSnap(s)
	}
	if text := impl.ShowSnap(s); text != want {
		t.Fatalf("ShowSnap(%s) = %s, want %s", brief(s), brief(text), brief(want))
	}
	read := impl.Snap{}
	if shown {
		read = s
	}
	if x, ok := impl.ReadSnap(rawSnap(s)); ok != shown || x != read {
		t.Fatalf("ReadSnap(%s) = %s, %v", brief(rawSnap(s)), brief(x), ok)
	}
}

// The edges that the document names, each with the answer written out.
func TestSnapEdges(t *testing.T) {
	full := strings.Repeat("x", impl.MaxSnap)
	for _, c := range []struct {
		s     impl.Snap
		right bool
	}{
		{impl.Snap{}, true},
		{impl.Snap{Data: "x"}, false},
		{impl.Snap{Index: 0, Term: 1}, false},
		{impl.Snap{Index: 0, Term: 1, Data: "x"}, false},
		{impl.Snap{Index: 1, Term: 0}, false},
		{impl.Snap{Index: 1, Term: 0, Data: "x"}, false},
		{impl.Snap{Index: 1, Term: 1}, true},
		{impl.Snap{Index: 1, Term: 1, Data: "x"}, true},
		{impl.Snap{Index: -1, Term: 1}, false},
		{impl.Snap{Index: 1, Term: -1}, false},
		{impl.Snap{Index: -1, Term: -1}, false},
		{impl.Snap{Index: impl.MaxIndex, Term: 1}, true},
		{impl.Snap{Index: impl.MaxIndex + 1, Term: 1}, false},
		{impl.Snap{Index: 1, Term: impl.MaxTerm}, true},
		{impl.Snap{Index: 1, Term: impl.MaxTerm + 1}, false},
		{impl.Snap{Index: impl.MaxIndex, Term: impl.MaxTerm, Data: full}, true},
		{impl.Snap{Index: 1, Term: 1, Data: full}, true},
		{impl.Snap{Index: 1, Term: 1, Data: full + "x"}, false},
		{impl.Snap{Index: 1, Term: 1, Data: full + full}, false},
		{impl.Snap{Data: full}, false},
		{impl.Snap{Index: math.MaxInt, Term: 1}, false},
		{impl.Snap{Index: math.MinInt, Term: 1}, false},
		{impl.Snap{Index: 1, Term: math.MaxInt}, false},
		{impl.Snap{Index: 1, Term: math.MinInt}, false},
		{impl.Snap{Index: 1 << 32, Term: 1}, false},
		{impl.Snap{Index: 1, Term: 1 << 32}, false},
		{impl.Snap{Index: 9, Term: 2, Data: allBytes()}, true},
		{impl.Snap{Index: 9, Term: 2, Data: rawSnap(snapOf())}, true},
	} {
		// What is shown in four bytes may be that of a right one, where the number has more than four.
		if c.s.Index>>32 == 0 && c.s.Term>>32 == 0 {
			wantSnap(t, c.s, c.right)
		}
		if impl.SnapOk(c.s) != c.right || (impl.ShowSnap(c.s) != "") != (c.right && c.s != impl.Snap{}) {
			t.Errorf("%s: SnapOk %v, ShowSnap %s", brief(c.s), impl.SnapOk(c.s), brief(impl.ShowSnap(c.s)))
		}
	}
}

// All edges of all fields with one another.
func TestSnapEdgesTogether(t *testing.T) {
	for _, index := range []int{0, 1, 2, 255, 256, 65536, 99999, 100000, 100001, 4294967295} {
		for _, term := range []int{0, 1, 2, 255, 256, 65536, 99999, 100000, 100001, 4294967295} {
			for _, many := range []int{0, 1, 2, 100, 2000, 2001} {
				s := impl.Snap{Index: index, Term: term, Data: rising(many, false)}
				wantSnap(t, s, slowSnapOk(s))
			}
		}
	}
	for _, many := range []int{29999, 30000, 30001, 65536} {
		s := impl.Snap{Index: 1, Term: 2, Data: rising(many, true)}
		wantSnap(t, s, many <= 30000)
	}
}

func wantReadSnap(t *testing.T, text string) {
	t.Helper()
	want, right := slowReadSnap(text)
	if s, ok := impl.ReadSnap(text); s != want || ok != right {
		t.Fatalf("ReadSnap(%s) = %s, %v, want %s, %v", brief(text), brief(s), ok, brief(want), right)
	}
}

func wantNoSnap(t *testing.T, name, text string) {
	t.Helper()
	if s, ok := impl.ReadSnap(text); ok || s != (impl.Snap{}) {
		t.Fatalf("%s: ReadSnap(%s) = %s, %v", name, brief(text), brief(s), ok)
	}
}

func TestReadSnapNearly(t *testing.T) {
	for _, s := range []impl.Snap{{Index: 1, Term: 1}, {Index: 1, Term: 1, Data: "\x00"}, snapOf(), {Index: impl.MaxIndex, Term: impl.MaxTerm, Data: allBytes()}} {
		text := rawSnap(s)
		for at := range len(text) {
			wantNoSnap(t, "cut off", text[:at])
			wantNoSnap(t, "a byte cut out", text[:at]+text[at+1:])
			wantNoSnap(t, "a byte more", text[:at]+"\x00"+text[at:])
			for bit := range 8 {
				wantNoSnap(t, "a bit turned", withByte(text, at, text[at]^(1<<bit)))
			}
			wantNoSnap(t, "a byte turned", withByte(text, at, ^text[at]))
			wantNoSnap(t, "all but the first bytes", text[at+1:])
		}
		for _, behind := range append(tails()[1:], "\x00", "\xff", text, text[:1], slowFrame("x"), strings.Repeat("\x00", 40000)) {
			if behind != "" {
				wantNoSnap(t, "bytes behind", text+behind)
			}
		}
		for _, ahead := range []string{"\x00", "x", slowFrame("x"), text} {
			wantNoSnap(t, "bytes ahead", ahead+text)
		}
	}
	wantNoSnap(t, "no byte", "")
}

// Heads whose frame is whole, with one thing in it that is not as it must be.
func TestReadSnapHeads(t *testing.T) {
	data := "data"
	sum := fourBytes(slowCrc(data))
	head := func(index, term, many int, sum string) string {
		return fourBytes(index) + fourBytes(term) + fourBytes(many) + sum
	}
	if s, ok := impl.ReadSnap(slowFrame(head(5, 6, 4, sum)) + data); !ok || s != (impl.Snap{Index: 5, Term: 6, Data: data}) {
		t.Fatalf("%#v, %v", s, ok)
	}
	right := head(5, 6, 4, sum)
	for name, body := range map[string]string{
		"Index 0":            head(0, 6, 4, sum),
		"Index above":        head(100001, 6, 4, sum),
		"Term 0":             head(5, 0, 4, sum),
		"Term above":         head(5, 100001, 4, sum),
		"both 0":             head(0, 0, 4, sum),
		"a byte less":        head(5, 6, 3, sum),
		"a byte more":        head(5, 6, 5, sum),
		"no byte":            head(5, 6, 0, sum),
		"many bytes":         head(5, 6, 4294967295, sum),
		"another sum":        head(5, 6, 4, fourBytes(slowCrc("date"))),
		"no sum":             head(5, 6, 4, "\x00\x00\x00\x00"),
		"sum of nothing":     head(5, 6, 4, fourBytes(slowCrc(""))),
		"a byte cut":         right[:15],
		"a byte behind":      right + "\x00",
		"the data inside":    right + data,
		"four bytes":         right[:4],
		"one byte":           right[:1],
		"eight bytes":        right[:8],
		"three bytes":        right[:3],
		"five bytes":         right[:5],
		"the Index cut":      right[1:],
		"the Index again":    right[:4] + right,
		"the longest":        strings.Repeat("\x01", impl.MaxBody),
		"sixteen bytes 0":    strings.Repeat("\x00", 16),
		"sixteen bytes 255":  strings.Repeat("\xff", 16),
		"a frame in a frame": slowFrame(right),
	} {
		wantNoSnap(t, name, slowFrame(body)+data)
		wantNoSnap(t, name+", no data", slowFrame(body))
	}
	wantNoSnap(t, "no frame", right+data)
	wantNoSnap(t, "zeros", slowFrame(head(0, 0, 0, fourBytes(slowCrc("")))))
	wantNoSnap(t, "MaxSnap + 1", rawSnap(impl.Snap{Index: 1, Term: 1, Data: strings.Repeat("x", impl.MaxSnap+1)}))
}

func TestReadSnapAgainstTheWords(t *testing.T) {
	for _, text := range append(textsOf("\x00\x10\x01", 5), someBodies()...) {
		wantReadSnap(t, text)
		wantReadSnap(t, slowFrame(text))
		wantReadSnap(t, slowFrame(text)+text)
	}
	r := rand.New(rand.NewPCG(6, 1))
	for range 3000 {
		s := impl.Snap{Index: r.IntN(100003), Term: pick(r, 0, 1, 7, 100000, 100001), Data: rising(r.IntN(40), r.IntN(2) == 0)}
		text := rawSnap(s)
		wantReadSnap(t, text)
		at := r.IntN(len(text))
		wantReadSnap(t, withByte(text, at, byte(r.IntN(256))))
		// The head is framed anew, so that only what it says is wrong.
		body := text[8:24]
		wantReadSnap(t, slowFrame(withByte(body, r.IntN(16), byte(r.IntN(256))))+text[24:])
	}
}

// stepKinds are the kinds that there are, and some that there are not.
func stepKinds() []int {
	return []int{impl.StMake, impl.StAdd, impl.StSync, impl.StName, impl.StDrop, impl.StDir, 0, -1, 7, 8, 100, math.MinInt, math.MaxInt}
}

// Each kind on disks of many kinds, held against the calls that they stand for.
func TestDoStep(t *testing.T) {
	disks := []impl.Disk{richDisk(), newDisk(t, 0), newDisk(t, 9), fullOfMoves(t), withInodes(impl.MaxInodes), keptDisk(richWal(), snapOf(), "log.new")}
	for _, d := range disks {
		for _, kind := range stepKinds() {
			for _, name := range []string{"a", "b", "z", "log", "log.new", "none", "No", ""} {
				for _, to := range []string{"", "a", "b", "log", "x", "No"} {
					for _, data := range []string{"", "xy", strings.Repeat("x", 100)} {
						c := callOf(impl.Step{Kind: kind, Name: name, To: to, Data: data})
						want, code := c.slow(copyDisk(d))
						wantCall(t, c, d, want, code)
					}
				}
			}
		}
	}
}

// Steps of each kind one behind the other, each answer written out by hand.
func TestDoStepStory(t *testing.T) {
	inode := func(data string, sure int) []impl.Inode {
		return []impl.Inode{{Id: 1, Data: data, Sure: sure}}
	}
	made := []impl.Move{{Kind: impl.MvMake, Name: "a", Id: 1}}
	named := []impl.Move{made[0], {Kind: impl.MvName, Name: "a", To: "b"}}
	dropped := append(slices.Clone(named), impl.Move{Kind: impl.MvDrop, Name: "b"})
	d := newDisk(t, 4)
	for _, s := range []struct {
		step impl.Step
		want impl.Disk
		code int
	}{
		{impl.Step{Kind: impl.StMake, Name: "a", To: "No", Data: "not looked at"}, impl.Disk{Room: 4, Next: 2, Inodes: inode("", 0), Moves: made}, impl.DkOk},
		{impl.Step{Kind: impl.StMake, Name: "a"}, impl.Disk{Room: 4, Next: 2, Inodes: inode("", 0), Moves: made}, impl.DkThere},
		{impl.Step{Kind: impl.StAdd, Name: "a", To: "No", Data: "xyz"}, impl.Disk{Room: 4, Next: 2, Inodes: inode("xyz", 0), Moves: made}, impl.DkOk},
		{impl.Step{Kind: impl.StAdd, Name: "a", Data: "xy"}, impl.Disk{Room: 4, Next: 2, Inodes: inode("xyz", 0), Moves: made}, impl.DkFull},
		{impl.Step{Kind: impl.StSync, Name: "a", To: "No", Data: "not looked at"}, impl.Disk{Room: 4, Next: 2, Inodes: inode("xyz", 3), Moves: made}, impl.DkOk},
		{impl.Step{Kind: impl.StName, Name: "a", To: "b", Data: "not looked at"}, impl.Disk{Room: 4, Next: 2, Inodes: inode("xyz", 3), Moves: named}, impl.DkOk},
		{impl.Step{Kind: impl.StName, Name: "a", To: "b"}, impl.Disk{Room: 4, Next: 2, Inodes: inode("xyz", 3), Moves: named}, impl.DkNone},
		{impl.Step{Kind: impl.StName, Name: "b"}, impl.Disk{Room: 4, Next: 2, Inodes: inode("xyz", 3), Moves: named}, impl.DkBad},
		{impl.Step{Kind: 7, Name: "b"}, impl.Disk{Room: 4, Next: 2, Inodes: inode("xyz", 3), Moves: named}, impl.DkBad},
		{impl.Step{}, impl.Disk{Room: 4, Next: 2, Inodes: inode("xyz", 3), Moves: named}, impl.DkBad},
		{impl.Step{Kind: impl.StDrop, Name: "b", To: "No", Data: "not looked at"}, impl.Disk{Room: 4, Next: 2, Inodes: inode("xyz", 3), Moves: dropped}, impl.DkOk},
		{impl.Step{Kind: impl.StDir, Name: "No", To: "No", Data: "not looked at"}, impl.Disk{Room: 4, Next: 2}, impl.DkOk},
	} {
		d = wantCall(t, callOf(s.step), d, s.want, s.code)
	}
}

// wantSteps tells where DoSteps answers otherwise, or writes into its arguments.
func wantSteps(t *testing.T, d impl.Disk, steps []impl.Step, n int, want impl.Disk, wantDone, wantCode int) impl.Disk {
	t.Helper()
	ahead, list := copyDisk(d), slices.Clone(steps)
	got, done, code := impl.DoSteps(d, steps, n)
	if !sameDisk(got, want) || done != wantDone || code != wantCode {
		t.Fatalf("DoSteps of %s\nby %d of %s\n= %s, %d, %d\nwant %s, %d, %d", brief(ahead), n, brief(list), brief(got), done, code, brief(want), wantDone, wantCode)
	}
	if !sameDisk(d, ahead) || !slices.Equal(steps, list) {
		t.Fatalf("DoSteps of %s\nby %d of %s wrote into them", brief(ahead), n, brief(list))
	}
	return got
}

func TestDoStepsNumbers(t *testing.T) {
	d := newDisk(t, 9)
	steps := []impl.Step{{Kind: impl.StMake, Name: "a"}, {Kind: impl.StAdd, Name: "a", Data: "xyz"}, {Kind: impl.StSync, Name: "a"}, {Kind: impl.StDir}}
	made := []impl.Move{{Kind: impl.MvMake, Name: "a", Id: 1}}
	behind := []impl.Disk{
		d,
		{Room: 9, Next: 2, Inodes: []impl.Inode{{Id: 1}}, Moves: made},
		{Room: 9, Next: 2, Inodes: []impl.Inode{{Id: 1, Data: "xyz"}}, Moves: made},
		{Room: 9, Next: 2, Inodes: []impl.Inode{{Id: 1, Data: "xyz", Sure: 3}}, Moves: made},
		{Room: 9, Next: 2, Inodes: []impl.Inode{{Id: 1, Data: "xyz", Sure: 3}}, Dir: []impl.Link{{Name: "a", Id: 1}}},
	}
	for n, want := range behind {
		wantSteps(t, d, steps, n, want, n, impl.DkOk)
	}
	for _, n := range []int{5, 6, 20, 21, math.MaxInt} {
		wantSteps(t, d, steps, n, behind[4], 4, impl.DkOk)
	}
	for _, n := range []int{-1, -2, -20, math.MinInt} {
		wantSteps(t, d, steps, n, d, 0, impl.DkOk)
	}
	for _, n := range []int{math.MinInt, -1, 0, 1, math.MaxInt} {
		wantSteps(t, d, nil, n, d, 0, impl.DkOk)
		wantSteps(t, richDisk(), []impl.Step{}, n, richDisk(), 0, impl.DkOk)
	}
}

// A step that is refused, at each place: what stands ahead of it is done, nothing behind it, and it changes nothing.
func TestDoStepsRefused(t *testing.T) {
	good := []impl.Step{{Kind: impl.StMake, Name: "a"}, {Kind: impl.StAdd, Name: "a", Data: "xyz"}, {Kind: impl.StSync, Name: "a"}, {Kind: impl.StDir}, {Kind: impl.StName, Name: "a", To: "b"}, {Kind: impl.StMake, Name: "a"}}
	for _, refused := range []struct {
		step impl.Step
		code int
	}{
		{impl.Step{Kind: 9}, impl.DkBad},
		{impl.Step{}, impl.DkBad},
		{impl.Step{Kind: -1, Name: "a"}, impl.DkBad},
		{impl.Step{Kind: impl.StMake, Name: "No"}, impl.DkBad},
		{impl.Step{Kind: impl.StSync, Name: "none"}, impl.DkNone},
		{impl.Step{Kind: impl.StMake, Name: "there"}, impl.DkThere},
		{impl.Step{Kind: impl.StAdd, Name: "there", Data: "far too many bytes"}, impl.DkFull},
	} {
		d := doAll(t, newDisk(t, 9), callMake("there"))
		ahead := d
		for at := range len(good) + 1 {
			steps := slices.Insert(slices.Clone(good), at, refused.step)
			for n := range len(steps) + 2 {
				if n <= at {
					wantDisk, done, code := slowDoSteps(d, steps, n)
					wantSteps(t, d, steps, n, wantDisk, done, code)
					continue
				}
				wantSteps(t, d, steps, n, ahead, at, refused.code)
			}
			if at < len(good) {
				ahead = doAll(t, ahead, callOf(good[at]))
			}
		}
	}
}

// manySteps are steps that are not refused.
func manySteps(many int) []impl.Step {
	return slices.Repeat([]impl.Step{{Kind: impl.StAdd, Name: "log", Data: "x"}}, many)
}

func TestDoStepsMany(t *testing.T) {
	d := keptDisk(richWal(), snapOf())
	want := copyDisk(d)
	want.Inodes[0].Data += strings.Repeat("x", impl.MaxSteps)
	wantSteps(t, d, manySteps(impl.MaxSteps), impl.MaxSteps, want, impl.MaxSteps, impl.DkOk)
	wantSteps(t, d, manySteps(impl.MaxSteps), impl.MaxSteps+5, want, impl.MaxSteps, impl.DkOk)
	want.Inodes[0].Data = want.Inodes[0].Data[:len(want.Inodes[0].Data)-1]
	wantSteps(t, d, manySteps(impl.MaxSteps), impl.MaxSteps-1, want, impl.MaxSteps-1, impl.DkOk)
	wantSteps(t, d, manySteps(impl.MaxSteps-1), impl.MaxSteps, want, impl.MaxSteps-1, impl.DkOk)
	for _, many := range []int{impl.MaxSteps + 1, impl.MaxSteps + 2, 1000} {
		for _, n := range []int{math.MinInt, -1, 0, 1, impl.MaxSteps, impl.MaxSteps + 1, math.MaxInt} {
			wantSteps(t, d, manySteps(many), n, d, 0, impl.DkBad)
			wantSteps(t, richDisk(), manySteps(many), n, richDisk(), 0, impl.DkBad)
		}
	}
}

// someKeepStep is a step with names and data that often meet what the disk has.
func someKeepStep(r *rand.Rand) impl.Step {
	name := func() string { return pick(r, "a", "b", "log", "log.new", "snap", "a", "b", "A", "") }
	s := impl.Step{Kind: pick(r, 1, 1, 2, 2, 3, 4, 5, 6, 1, 2, 3, 4, 6, r.IntN(9)-1), Name: name()}
	if s.Kind == impl.StName || r.IntN(4) == 0 {
		s.To = name()
	}
	if s.Kind == impl.StAdd || r.IntN(4) == 0 {
		s.Data = strings.Repeat(pick(r, "x", "y"), r.IntN(5))
	}
	return s
}

func TestDoStepsWalks(t *testing.T) {
	seen, most := map[int]int{}, 0
	for seed := range uint64(200) {
		r := rand.New(rand.NewPCG(seed, 66))
		d := newDisk(t, pick(r, 3, 20, 60))
		for range 60 {
			var steps []impl.Step
			for range r.IntN(pick(r, 4, 4, 8, 22)) {
				steps = append(steps, someKeepStep(r))
			}
			n := r.IntN(len(steps)+4) - 2
			want, done, code := slowDoSteps(d, steps, n)
			d = wantSteps(t, d, steps, n, want, done, code)
			if !impl.DiskOk(d) {
				t.Fatalf("DoSteps made a disk that is not right: %s", brief(d))
			}
			seen[code]++
			most = max(most, done)
		}
	}
	for code := impl.DkOk; code <= impl.DkFull; code++ {
		if seen[code] < 20 {
			t.Errorf("code %d came %d times only", code, seen[code])
		}
	}
	if most < 5 {
		t.Errorf("at most %d steps were done", most)
	}
}

// Disks that are not right: the zero Disk, and nothing of them is told; more than MaxSteps steps are named first, and hand it back.
func TestKeepDisksNotRight(t *testing.T) {
	w, s := richWal(), snapOf()
	steps := []impl.Step{{Kind: impl.StMake, Name: "b"}, {Kind: impl.StAdd, Name: "b", Data: "x"}, {Kind: impl.StSync, Name: "b"}, {Kind: impl.StName, Name: "b", To: "c"}, {Kind: impl.StDrop, Name: "b"}, {Kind: impl.StDir}, {Kind: 7}, {}}
	for _, b := range badDisks() {
		for _, step := range steps {
			wantCall(t, callOf(step), b.d, impl.Disk{}, impl.DkBad)
		}
		for _, n := range []int{-1, 0, 1, 9} {
			wantSteps(t, b.d, steps, n, impl.Disk{}, 0, impl.DkBad)
			wantSteps(t, b.d, nil, n, impl.Disk{}, 0, impl.DkBad)
			wantSteps(t, b.d, manySteps(impl.MaxSteps), n, impl.Disk{}, 0, impl.DkBad)
			wantSteps(t, b.d, manySteps(impl.MaxSteps+1), n, b.d, 0, impl.DkBad)
		}
		if l := impl.PlanLog(b.d, w); len(l) != 0 {
			t.Fatalf("%s: PlanLog = %s", b.name, brief(l))
		}
		if l := impl.PlanSnap(b.d, s, w); len(l) != 0 {
			t.Fatalf("%s: PlanSnap = %s", b.name, brief(l))
		}
		wantRecover(t, b.name, b.d, impl.Kept{}, impl.KpBad)
	}
	// A log that is right, on a disk that is not.
	d := keptDisk(w, s)
	d.Room = len(d.Inodes[0].Data)
	wantRecover(t, "no room", d, impl.Kept{}, impl.KpBad)
}

func TestKeepWalsNotRight(t *testing.T) {
	d := keptDisk(richWal(), snapOf(), "log.new", "snap.new")
	for _, b := range badWals() {
		for _, right := range []impl.Wal{richWal(), {}, b.w} {
			if l := impl.PlanAdd(b.w, right); len(l) != 0 {
				t.Errorf("%s: PlanAdd from it = %s", b.name, brief(l))
			}
			if l := impl.PlanAdd(right, b.w); len(l) != 0 {
				t.Errorf("%s: PlanAdd to it = %s", b.name, brief(l))
			}
		}
		if l := impl.PlanLog(d, b.w); len(l) != 0 {
			t.Errorf("%s: PlanLog = %s", b.name, brief(l))
		}
		if l := impl.PlanSnap(d, snapOf(), b.w); len(l) != 0 {
			t.Errorf("%s: PlanSnap = %s", b.name, brief(l))
		}
	}
}

func TestKeepSnapsNotRight(t *testing.T) {
	for _, d := range []impl.Disk{newDisk(t, 9), keptDisk(richWal(), snapOf(), "log.new", "snap.new")} {
		for _, s := range []impl.Snap{{}, {Data: "x"}, {Index: 1}, {Term: 1}, {Index: -1, Term: 1}, {Index: 1, Term: -1}, {Index: impl.MaxIndex + 1, Term: 1}, {Index: 1, Term: impl.MaxTerm + 1}, {Index: 1, Term: 1, Data: strings.Repeat("x", impl.MaxSnap+1)}, {Index: math.MaxInt, Term: math.MinInt}} {
			if l := impl.PlanSnap(d, s, richWal()); len(l) != 0 {
				t.Errorf("PlanSnap of %s = %s", brief(s), brief(l))
			}
		}
	}
}

func wantPlan(t *testing.T, name string, got, want []impl.Step) {
	t.Helper()
	if !slices.Equal(got, want) {
		t.Fatalf("%s: %s\nwant %s", name, brief(got), brief(want))
	}
	if len(got) > impl.MaxSteps {
		t.Fatalf("%s: %d steps", name, len(got))
	}
}

func TestPlanAdd(t *testing.T) {
	wal := func(term, vote int, entries ...impl.Entry) impl.Wal {
		return impl.Wal{Term: term, Vote: vote, Base: 7, BaseTerm: 3, Entries: entries}
	}
	a, b := impl.Entry{Term: 3, Data: "a"}, impl.Entry{Term: 4, Data: "b"}
	for _, c := range []struct {
		name     string
		from, to impl.Wal
		recs     []impl.Rec
	}{
		{"a vote", wal(6, -1, a), wal(6, 4, a), []impl.Rec{{Kind: impl.RcHard, Term: 6, Vote: 4}}},
		{"an entry", wal(6, 2, a), wal(6, 2, a, b), []impl.Rec{{Kind: impl.RcEntry, Term: 4, Index: 9, Data: "b"}}},
		{"a cut", wal(6, 2, a, b), wal(6, 2), []impl.Rec{{Kind: impl.RcCut, Index: 8}}},
		{"all", wal(6, 2, a), wal(7, -1, b, b), []impl.Rec{{Kind: impl.RcHard, Term: 7, Vote: -1}, {Kind: impl.RcCut, Index: 8}, {Kind: impl.RcEntry, Term: 4, Index: 8, Data: "b"}, {Kind: impl.RcEntry, Term: 4, Index: 9, Data: "b"}}},
		{"no changes", wal(6, 2, a), wal(6, 2, a), nil},
		{"no changes of nothing", impl.Wal{}, impl.Wal{}, nil},
		{"the term goes back", wal(6, 2, a), wal(5, 2, a, b), nil},
		{"another vote", wal(6, 2), wal(6, 1, a), nil},
		{"another Base", wal(6, 2), impl.Wal{Term: 7, Vote: 2, Base: 8, BaseTerm: 3}, nil},
		{"another BaseTerm", wal(6, 2), impl.Wal{Term: 7, Vote: 2, Base: 7, BaseTerm: 4}, nil},
	} {
		var want []impl.Step
		if len(c.recs) > 0 {
			want = []impl.Step{{Kind: impl.StAdd, Name: "log", Data: logOf(c.recs...)}, {Kind: impl.StSync, Name: "log"}}
		}
		wantPlan(t, c.name, impl.PlanAdd(c.from, c.to), want)
	}
	for _, from := range rightWals() {
		for _, to := range rightWals() {
			wantPlan(t, "PlanAdd", impl.PlanAdd(from, to), slowPlanAdd(from, to))
		}
	}
}

func TestPlanLogAndSnap(t *testing.T) {
	w, s := richWal(), snapOf()
	drop := func(name string) []impl.Step { return []impl.Step{{Kind: impl.StDrop, Name: name}} }
	log := []impl.Step{{Kind: impl.StMake, Name: "log.new"}, {Kind: impl.StAdd, Name: "log.new", Data: slowWalText(w)}, {Kind: impl.StSync, Name: "log.new"}, {Kind: impl.StName, Name: "log.new", To: "log"}, {Kind: impl.StDir}}
	snap := []impl.Step{{Kind: impl.StMake, Name: "snap.new"}, {Kind: impl.StAdd, Name: "snap.new", Data: rawSnap(s)}, {Kind: impl.StSync, Name: "snap.new"}, {Kind: impl.StName, Name: "snap.new", To: "snap"}, {Kind: impl.StDir}}
	both := keptDisk(w, s, "log.new", "snap.new")
	for _, c := range []struct {
		name       string
		d          impl.Disk
		log, plans []impl.Step
	}{
		{"an empty disk", newDisk(t, 0), log, slices.Concat(snap, log)},
		{"a disk with both files", keptDisk(w, s), log, slices.Concat(snap, log)},
		{"log.new is there", keptDisk(w, s, "log.new"), slices.Concat(drop("log.new"), log), slices.Concat(snap, drop("log.new"), log)},
		{"snap.new is there", keptDisk(w, s, "snap.new"), log, slices.Concat(drop("snap.new"), snap, log)},
		{"both are there", both, slices.Concat(drop("log.new"), log), slices.Concat(drop("snap.new"), snap, drop("log.new"), log)},
		{"both were dropped", doAll(t, both, callDrop("log.new"), callDrop("snap.new")), log, slices.Concat(snap, log)},
		{"both were renamed", doAll(t, both, callRename("log.new", "log"), callRename("snap.new", "a")), log, slices.Concat(snap, log)},
		{"both were made, not safe", doAll(t, newDisk(t, 0), callMake("log.new"), callMake("snap.new")), slices.Concat(drop("log.new"), log), slices.Concat(drop("snap.new"), snap, drop("log.new"), log)},
		{"names that are nearly these", doAll(t, newDisk(t, 0), callMake("log.ne"), callMake("log.neww"), callMake("snap.ne"), callMake("new")), log, slices.Concat(snap, log)},
	} {
		ahead := copyDisk(c.d)
		wantPlan(t, c.name+", log", impl.PlanLog(c.d, w), c.log)
		wantPlan(t, c.name+", snap", impl.PlanSnap(c.d, s, w), c.plans)
		if !sameDisk(c.d, ahead) {
			t.Fatalf("%s: the plan wrote into the disk", c.name)
		}
		for _, x := range rightWals() {
			wantPlan(t, c.name+", log of another Wal", impl.PlanLog(c.d, x), slowPlanLog(c.d, x))
			// The Wal may be any one, behind the snapshot or not.
			wantPlan(t, c.name+", snap of another Wal", impl.PlanSnap(c.d, s, x), slowPlanSnap(c.d, s, x))
		}
		edge := impl.Snap{Index: impl.MaxIndex, Term: impl.MaxTerm, Data: strings.Repeat("x", impl.MaxSnap)}
		wantPlan(t, c.name+", snap at the edges", impl.PlanSnap(c.d, edge, w), slowPlanSnap(c.d, edge, w))
	}
}

// walAt is what is left of richWal behind a snapshot.
func walAt(term, vote, base, baseTerm int, entries ...impl.Entry) impl.Wal {
	return impl.Wal{Term: term, Vote: vote, Base: base, BaseTerm: baseTerm, Entries: entries}
}

// Snapshots of each number and term beside richWal: Base 7 of term 3, Entries 8 to 11 of terms 3, 3, 5 and 6, Term 6, Vote 2.
func TestRecoverSnapshots(t *testing.T) {
	w := richWal()
	e := w.Entries
	for _, c := range []struct {
		index, term int
		want        impl.Wal
		code        int
	}{
		{1, 1, impl.Wal{}, impl.KpBad},
		{6, 3, impl.Wal{}, impl.KpBad},
		{6, 7, impl.Wal{}, impl.KpBad},
		{7, 2, impl.Wal{}, impl.KpBad},
		{7, 3, w, impl.KpOk},
		{7, 4, impl.Wal{}, impl.KpBad},
		{7, 7, impl.Wal{}, impl.KpBad},
		{8, 3, walAt(6, 2, 8, 3, e[1:]...), impl.KpOk},
		{8, 2, walAt(6, 2, 8, 2), impl.KpOk},
		{8, 4, walAt(6, 2, 8, 4), impl.KpOk},
		{8, 6, walAt(6, 2, 8, 6), impl.KpOk},
		{8, 7, walAt(7, -1, 8, 7), impl.KpOk},
		{9, 3, walAt(6, 2, 9, 3, e[2:]...), impl.KpOk},
		{9, 5, walAt(6, 2, 9, 5), impl.KpOk},
		{10, 5, walAt(6, 2, 10, 5, e[3:]...), impl.KpOk},
		{10, 3, walAt(6, 2, 10, 3), impl.KpOk},
		{10, 6, walAt(6, 2, 10, 6), impl.KpOk},
		{11, 6, walAt(6, 2, 11, 6), impl.KpOk},
		{11, 5, walAt(6, 2, 11, 5), impl.KpOk},
		{11, 7, walAt(7, -1, 11, 7), impl.KpOk},
		{12, 6, walAt(6, 2, 12, 6), impl.KpOk},
		{12, 1, walAt(6, 2, 12, 1), impl.KpOk},
		{12, 7, walAt(7, -1, 12, 7), impl.KpOk},
		{13, 6, walAt(6, 2, 13, 6), impl.KpOk},
		{13, impl.MaxTerm, walAt(impl.MaxTerm, -1, 13, impl.MaxTerm), impl.KpOk},
		{impl.MaxIndex, 1, walAt(6, 2, impl.MaxIndex, 1), impl.KpOk},
		{impl.MaxIndex, impl.MaxTerm, walAt(impl.MaxTerm, -1, impl.MaxIndex, impl.MaxTerm), impl.KpOk},
	} {
		s := impl.Snap{Index: c.index, Term: c.term, Data: "snap"}
		want := impl.Kept{}
		if c.code == impl.KpOk {
			want = impl.Kept{Wal: c.want, Snap: s, Dirty: c.index != 7}
		}
		wantRecover(t, fmt.Sprintf("a snapshot of %d, term %d", c.index, c.term), keptDisk(w, s), want, c.code)
	}
	wantRecover(t, "no snapshot, Base 7", keptDisk(w, impl.Snap{}), impl.Kept{}, impl.KpBad)
	// A log from its first entry on.
	first := impl.Wal{Term: 2, Vote: 1, Entries: entriesOf(1, 2)}
	wantRecover(t, "no snapshot, Base 0", keptDisk(first, impl.Snap{}), impl.Kept{Wal: first}, impl.KpOk)
	wantRecover(t, "no snapshot, an empty log", keptDisk(impl.Wal{Vote: -1}, impl.Snap{}), impl.Kept{Wal: impl.Wal{Vote: -1}}, impl.KpOk)
	s := impl.Snap{Index: 1, Term: 1}
	wantRecover(t, "its first entry", keptDisk(first, s), impl.Kept{Wal: walAt(2, 1, 1, 1, first.Entries[1]), Snap: s, Dirty: true}, impl.KpOk)
	s = impl.Snap{Index: 1, Term: 3}
	wantRecover(t, "its first entry, another term", keptDisk(first, s), impl.Kept{Wal: walAt(3, -1, 1, 3), Snap: s, Dirty: true}, impl.KpOk)
	s = impl.Snap{Index: 2, Term: 2, Data: strings.Repeat("x", impl.MaxSnap)}
	wantRecover(t, "its last entry", keptDisk(first, s), impl.Kept{Wal: walAt(2, 1, 2, 2), Snap: s, Dirty: true}, impl.KpOk)
	// The first record alone: the Term is that of Base, no Vote.
	s = snapOf()
	d := filesDisk(map[string]string{"log": logOf(impl.Rec{Kind: impl.RcBase, Term: 3, Index: 7}), "snap": rawSnap(s)})
	wantRecover(t, "the first record alone", d, impl.Kept{Wal: walAt(3, -1, 7, 3), Snap: s}, impl.KpOk)
}

// All right Wals with snapshots around each of their numbers and terms.
func TestRecoverAgainstTheWords(t *testing.T) {
	seen := map[int]int{}
	for _, w := range rightWals() {
		last := w.Base + len(w.Entries)
		for _, index := range []int{1, w.Base - 1, w.Base, w.Base + 1, w.Base + 2, last - 1, last, last + 1, impl.MaxIndex} {
			for _, term := range []int{1, 2, w.BaseTerm - 1, w.BaseTerm, w.BaseTerm + 1, w.Term - 1, w.Term, w.Term + 1, impl.MaxTerm} {
				s := impl.Snap{Index: index, Term: term, Data: "s"}
				d := keptDisk(w, impl.Snap{})
				if slowSnapOk(s) {
					d = keptDisk(w, s)
				}
				want, code := slowRecover(d)
				wantRecover(t, "a snapshot of "+brief(s), d, want, code)
				seen[code]++
			}
		}
	}
	if seen[impl.KpOk] < 300 || seen[impl.KpBad] < 100 {
		t.Errorf("KpOk %d, KpBad %d", seen[impl.KpOk], seen[impl.KpBad])
	}
}

// Dirty for each of its reasons alone, for none, and for all.
func TestRecoverDirty(t *testing.T) {
	w, s := richWal(), snapOf()
	clean := keptDisk(w, s)
	with := func(name string, text string) impl.Disk {
		files := keptFiles(w, s)
		files[name] += text
		return filesDisk(files)
	}
	entry := logOf(impl.Rec{Kind: impl.RcEntry, Term: 6, Index: 12, Data: "new"})
	longer := copyWal(w)
	longer.Entries = append(longer.Entries, impl.Entry{Term: 6, Data: "new"})
	for _, c := range []struct {
		name string
		d    impl.Disk
		want impl.Kept
	}{
		{"none", clean, impl.Kept{Wal: w, Snap: s}},
		{"none, files of other names", keptDisk(w, s, "a", "log.old", "snap.ne", "new", "log.neww"), impl.Kept{Wal: w, Snap: s}},
		{"none, a record more", with("log", entry), impl.Kept{Wal: longer, Snap: s}},
		{"a byte behind the log", with("log", "x"), impl.Kept{Wal: w, Snap: s, Dirty: true}},
		{"a record that is cut", with("log", entry[:len(entry)-1]), impl.Kept{Wal: w, Snap: s, Dirty: true}},
		{"a record that does not fit", with("log", logOf(impl.Rec{Kind: impl.RcEntry, Term: 6, Index: 13})), impl.Kept{Wal: w, Snap: s, Dirty: true}},
		{"a byte behind a record more", with("log", entry+"\x00"), impl.Kept{Wal: longer, Snap: s, Dirty: true}},
		{"log.new", keptDisk(w, s, "log.new"), impl.Kept{Wal: w, Snap: s, Dirty: true}},
		{"snap.new", keptDisk(w, s, "snap.new"), impl.Kept{Wal: w, Snap: s, Dirty: true}},
		{"log.new without a byte", with("log.new", ""), impl.Kept{Wal: w, Snap: s, Dirty: true}},
		{"snap.new without a byte", with("snap.new", ""), impl.Kept{Wal: w, Snap: s, Dirty: true}},
		{"log.new made, not safe", doAll(t, clean, callMake("log.new")), impl.Kept{Wal: w, Snap: s, Dirty: true}},
		{"snap.new made, not safe", doAll(t, clean, callMake("snap.new")), impl.Kept{Wal: w, Snap: s, Dirty: true}},
		{"both dropped, not safe", doAll(t, keptDisk(w, s, "log.new", "snap.new"), callDrop("log.new"), callDrop("snap.new")), impl.Kept{Wal: w, Snap: s}},
		{"a later snapshot", keptDisk(w, impl.Snap{Index: 11, Term: 6}), impl.Kept{Wal: walAt(6, 2, 11, 6), Snap: impl.Snap{Index: 11, Term: 6}, Dirty: true}},
		{"all", filesDisk(map[string]string{"log": slowWalText(w) + "x", "snap": rawSnap(impl.Snap{Index: 9, Term: 3}), "log.new": "", "snap.new": ""}), impl.Kept{Wal: walAt(6, 2, 9, 3, w.Entries[2:]...), Snap: impl.Snap{Index: 9, Term: 3}, Dirty: true}},
		// What is not synced is there as long as power is.
		{"none, a record that is not synced", doAll(t, clean, callAdd("log", entry)), impl.Kept{Wal: longer, Snap: s}},
	} {
		wantRecover(t, c.name, c.d, c.want, impl.KpOk)
	}
}

// Disks that tell nothing, by each of the reasons, and which of two comes first.
func TestRecoverNothing(t *testing.T) {
	w, s := richWal(), snapOf()
	log, snap := slowWalText(w), rawSnap(s)
	files := func(log, snap string) impl.Disk { return filesDisk(map[string]string{"log": log, "snap": snap}) }
	for _, c := range []struct {
		name string
		d    impl.Disk
		code int
	}{
		{"an empty disk", newDisk(t, 0), impl.KpNone},
		{"the rich disk", richDisk(), impl.KpNone},
		{"a snapshot alone", filesDisk(map[string]string{"snap": snap}), impl.KpNone},
		{"a snapshot alone that is none", filesDisk(map[string]string{"snap": "x"}), impl.KpNone},
		{"log.new alone", filesDisk(map[string]string{"log.new": log}), impl.KpNone},
		{"names that are nearly log", filesDisk(map[string]string{"lo": log, "logg": log, "log.": log, ".log": log}), impl.KpNone},
		{"the log is dropped", doAll(t, keptDisk(w, s), callDrop("log")), impl.KpNone},
		{"the log has another name", doAll(t, keptDisk(w, s), callRename("log", "old")), impl.KpNone},
		{"the zero Disk", impl.Disk{}, impl.KpBad},
		{"a log without a byte", files("", snap), impl.KpBad},
		{"a log without a byte, no snapshot", filesDisk(map[string]string{"log": ""}), impl.KpBad},
		{"a log that begins with another record", files(logOf(impl.Rec{Kind: impl.RcHard, Term: 3, Vote: 1})+log, snap), impl.KpBad},
		{"a log whose first record is cut", files(log[:5], snap), impl.KpBad},
		{"a log whose first byte is another one", files(withByte(log, 0, 1), snap), impl.KpBad},
		{"a snapshot in the log's place", files(snap, snap), impl.KpBad},
		{"a snapshot without a byte", files(log, ""), impl.KpBad},
		{"a snapshot without a byte beside a log from the first entry on", files(slowWalText(impl.Wal{Vote: -1}), ""), impl.KpBad},
		{"a snapshot that is cut", files(log, snap[:len(snap)-1]), impl.KpBad},
		{"a snapshot with a byte behind", files(log, snap+"x"), impl.KpBad},
		{"a snapshot with another byte", files(log, withByte(snap, len(snap)-1, 'x')), impl.KpBad},
		{"a log in the snapshot's place", files(log, log), impl.KpBad},
		{"both are none", files("", ""), impl.KpBad},
	} {
		wantRecover(t, c.name, c.d, impl.Kept{}, c.code)
	}
	// A log that was named a moment ago is one.
	d := doAll(t, filesDisk(map[string]string{"a": log, "b": snap}), callRename("a", "log"), callRename("b", "snap"))
	wantRecover(t, "named, not safe", d, impl.Kept{Wal: w, Snap: s}, impl.KpOk)
	wantRecover(t, "named, and power fell", impl.Crash(d, 0, nil), impl.Kept{}, impl.KpNone)
	wantRecover(t, "the log named, and power fell", impl.Crash(d, 1, nil), impl.Kept{}, impl.KpBad)
}

// sameTold asks whether both tell the same log and snapshot.
func sameTold(a, b impl.Kept) bool {
	return sameWal(a.Wal, b.Wal) && a.Snap == b.Snap
}

// longestLoose is the most bytes that one file may lose.
func longestLoose(d impl.Disk) int {
	most := 0
	for _, n := range d.Inodes {
		most = max(most, len(n.Data)-n.Sure)
	}
	return most
}

// eachCrash hands on what is left of the disk behind each Crash: each number of changes of names, cuts of each length (of long ones some).
func eachCrash(d impl.Disk, do func(name string, crashed impl.Disk, keep, cut int)) {
	most := longestLoose(d)
	by := 1 + most/400
	for keep := -1; keep <= len(d.Moves)+1; keep++ {
		for cut := -1; cut <= most+by; cut += by {
			cuts := slices.Repeat([]int{cut}, len(d.Inodes))
			do(fmt.Sprintf("crashed with %d changes of names and cuts of %d", keep, cut), impl.Crash(d, keep, cuts), keep, cut)
		}
	}
}

// wantOldOrNew does the plan up to each number of steps and lets power fall; it counts how often the old ones were told and how often the new ones.
func wantOldOrNew(t *testing.T, name string, d impl.Disk, plan []impl.Step, past, next impl.Kept) (int, int) {
	t.Helper()
	olds, news := 0, 0
	hold := func(name string, crashed impl.Disk, n int) {
		k, code := impl.Recover(crashed)
		wantKept, wantCode := slowRecover(crashed)
		if !sameKept(k, wantKept) || code != wantCode {
			t.Fatalf("%s: Recover of %s = %s, %d, by the words %s, %d", name, brief(crashed), brief(k), code, brief(wantKept), wantCode)
		}
		isOld, isNew := sameTold(k, past), sameTold(k, next)
		if code != impl.KpOk || !isOld && !isNew || n == len(plan) && !isNew || n == 0 && !isOld {
			t.Fatalf("%s: Recover tells %s, %d\nold %s\nnew %s", name, brief(k), code, brief(past), brief(next))
		}
		if isNew && !isOld {
			news++
		} else {
			olds++
		}
	}
	for n := range len(plan) + 1 {
		e, done, code := impl.DoSteps(d, plan, n)
		if done != n || code != impl.DkOk {
			t.Fatalf("%s: %d of %d steps done, code %d", name, done, n, code)
		}
		hold(fmt.Sprintf("%s, %d steps", name, n), e, n)
		eachCrash(e, func(how string, crashed impl.Disk, _, _ int) {
			hold(fmt.Sprintf("%s, %d steps, %s", name, n, how), crashed, n)
		})
	}
	return olds, news
}

// beside are files that may be left of a plan that power cut short.
func beside() [][]string {
	return [][]string{nil, {"log.new"}, {"snap.new"}, {"log.new", "snap.new"}, {"a", "log.old", "snap.new"}}
}

func TestOldOrNewLog(t *testing.T) {
	full := impl.Wal{Term: 8, Vote: 4, Base: 7, BaseTerm: 3, Entries: sameEntries(impl.MaxLog, 8, strings.Repeat("x", impl.MaxData))}
	for _, c := range []struct {
		name       string
		past, next impl.Wal
		s          impl.Snap
	}{
		{"the first log of records", impl.Wal{Vote: -1}, impl.Wal{Term: 2, Vote: 1, Entries: entriesOf(1, 2)}, impl.Snap{}},
		{"shorter", richWal(), walAt(6, 2, 7, 3), snapOf()},
		{"longer", walAt(6, 2, 7, 3), richWal(), snapOf()},
		{"another vote, which no record tells", richWal(), walAt(6, 1, 7, 3, richWal().Entries...), snapOf()},
		{"the term goes back", richWal(), walAt(3, -1, 7, 3), snapOf()},
		{"the same", richWal(), richWal(), snapOf()},
		{"full", richWal(), full, snapOf()},
	} {
		for _, more := range beside() {
			d := keptDisk(c.past, c.s, more...)
			olds, news := wantOldOrNew(t, c.name, d, impl.PlanLog(d, c.next), impl.Kept{Wal: c.past, Snap: c.s}, impl.Kept{Wal: c.next, Snap: c.s})
			if olds < 5 || news < 5 && !sameWal(c.past, c.next) {
				t.Errorf("%s, beside %q: the old told %d times, the new %d times", c.name, more, olds, news)
			}
		}
	}
}

// The first log of a disk: nothing is told until it is there, and then all of it.
func TestFirstLog(t *testing.T) {
	w := impl.Wal{Term: 2, Vote: 1, Entries: entriesOf(1, 2)}
	for _, d := range []impl.Disk{newDisk(t, 2000), filesDisk(map[string]string{"log.new": "left"})} {
		plan := impl.PlanLog(d, w)
		for n := range len(plan) + 1 {
			e, _, _ := impl.DoSteps(d, plan, n)
			eachCrash(e, func(how string, crashed impl.Disk, keep, _ int) {
				k, code := impl.Recover(crashed)
				named := n == len(plan) || n == len(plan)-1 && keep >= len(e.Moves)
				if named && (code != impl.KpOk || !sameKept(k, impl.Kept{Wal: w})) || !named && code != impl.KpNone {
					t.Fatalf("%d steps, %s: %s, %d", n, how, brief(k), code)
				}
			})
		}
	}
}

// Later snapshots of each kind beside richWal, each with the log behind it.
func TestOldOrNewSnap(t *testing.T) {
	w := richWal()
	long := strings.Repeat("snap", impl.MaxSnap/4)
	for _, c := range []struct {
		name string
		past impl.Wal
		old  impl.Snap
		s    impl.Snap
		next impl.Wal
	}{
		{"an entry with that term", w, snapOf(), impl.Snap{Index: 9, Term: 3, Data: "nine"}, walAt(6, 2, 9, 3, w.Entries[2:]...)},
		{"the next entry", w, snapOf(), impl.Snap{Index: 8, Term: 3}, walAt(6, 2, 8, 3, w.Entries[1:]...)},
		{"the last entry", w, snapOf(), impl.Snap{Index: 11, Term: 6, Data: "eleven"}, walAt(6, 2, 11, 6)},
		{"an entry with another term", w, snapOf(), impl.Snap{Index: 9, Term: 5, Data: "nine"}, walAt(6, 2, 9, 5)},
		{"above the last entry", w, snapOf(), impl.Snap{Index: 40, Term: 6, Data: "forty"}, walAt(6, 2, 40, 6)},
		{"a term above that of the log", w, snapOf(), impl.Snap{Index: 40, Term: 7, Data: "forty"}, walAt(7, -1, 40, 7)},
		{"the last entry, a term above that of the log", w, snapOf(), impl.Snap{Index: 11, Term: 9, Data: "eleven"}, walAt(9, -1, 11, 9)},
		{"the first snapshot", impl.Wal{Term: 2, Vote: 1, Entries: entriesOf(1, 2)}, impl.Snap{}, impl.Snap{Index: 1, Term: 1, Data: "one"}, walAt(2, 1, 1, 1, entriesOf(1, 2)[1])},
		{"the edges", w, snapOf(), impl.Snap{Index: impl.MaxIndex, Term: impl.MaxTerm, Data: "last"}, walAt(impl.MaxTerm, -1, impl.MaxIndex, impl.MaxTerm)},
		{"MaxSnap bytes", w, snapOf(), impl.Snap{Index: 11, Term: 6, Data: long}, walAt(6, 2, 11, 6)},
		{"behind MaxSnap bytes", w, impl.Snap{Index: 7, Term: 3, Data: long}, impl.Snap{Index: 10, Term: 5, Data: "ten"}, walAt(6, 2, 10, 5, w.Entries[3:]...)},
	} {
		for _, more := range beside() {
			if len(c.s.Data) > 9000 && len(more) > 1 {
				continue
			}
			d := keptDisk(c.past, c.old, more...)
			olds, news := wantOldOrNew(t, c.name, d, impl.PlanSnap(d, c.s, c.next), impl.Kept{Wal: c.past, Snap: c.old}, impl.Kept{Wal: c.next, Snap: c.s})
			if olds < 20 || news < 20 {
				t.Errorf("%s, beside %q: the old told %d times, the new %d times", c.name, more, olds, news)
			}
			e, _, _ := impl.DoSteps(d, impl.PlanSnap(d, c.s, c.next), impl.MaxSteps)
			wantRecover(t, c.name+", all done", e, impl.Kept{Wal: c.next, Snap: c.s}, impl.KpOk)
			wantRecover(t, c.name+", all done, and power fell", impl.Crash(e, 0, nil), impl.Kept{Wal: c.next, Snap: c.s}, impl.KpOk)
		}
	}
}

// What power cut short is planned again on what it left, and done to its end.
func TestPlannedAgain(t *testing.T) {
	w, s := richWal(), snapOf()
	later, behind := impl.Snap{Index: 9, Term: 3, Data: "nine"}, walAt(6, 2, 9, 3, richWal().Entries[2:]...)
	all := func(name string, d impl.Disk, plan []impl.Step, want impl.Kept) {
		t.Helper()
		e, done, code := impl.DoSteps(d, plan, len(plan))
		if done != len(plan) || code != impl.DkOk {
			t.Fatalf("%s: %d of %d steps, code %d", name, done, len(plan), code)
		}
		wantRecover(t, name, impl.Crash(e, 0, nil), want, impl.KpOk)
	}
	d := keptDisk(w, s)
	plan := impl.PlanSnap(d, later, behind)
	for n := range len(plan) + 1 {
		e, _, _ := impl.DoSteps(d, plan, n)
		for keep := range len(e.Moves) + 1 {
			for _, cut := range []int{0, 1, 30, 1000} {
				crashed := impl.Crash(e, keep, slices.Repeat([]int{cut}, len(e.Inodes)))
				all("the snapshot again", crashed, impl.PlanSnap(crashed, later, behind), impl.Kept{Wal: behind, Snap: later})
				k, _ := impl.Recover(crashed)
				left := impl.Kept{Wal: k.Wal, Snap: k.Snap, Dirty: slowHas(crashed, "snap.new")}
				all("the log alone", crashed, impl.PlanLog(crashed, k.Wal), left)
			}
		}
	}
}

// A disk with too little room: a plan ends where it does not fit, and what is told is old or new.
func TestOldOrNewWithoutRoom(t *testing.T) {
	w, s := richWal(), snapOf()
	later, behind := impl.Snap{Index: 9, Term: 3, Data: "nine"}, walAt(6, 2, 9, 3, richWal().Entries[2:]...)
	past, next := impl.Kept{Wal: w, Snap: s}, impl.Kept{Wal: behind, Snap: later}
	ends := map[int]int{}
	for more := range 200 {
		d := keptDisk(w, s)
		d.Room = slowBytes(d) + more
		plan := impl.PlanSnap(d, later, behind)
		e, done, code := impl.DoSteps(d, plan, len(plan))
		ends[done]++
		if (code == impl.DkOk) != (done == len(plan)) || code != impl.DkOk && code != impl.DkFull {
			t.Fatalf("%d bytes of room: %d steps, code %d", more, done, code)
		}
		eachCrash(e, func(how string, crashed impl.Disk, _, _ int) {
			k, code := impl.Recover(crashed)
			if code != impl.KpOk || !sameTold(k, past) && !sameTold(k, next) || done >= 5 && !sameTold(k, next) {
				t.Fatalf("%d bytes of room, %d steps, %s: %s, %d", more, done, how, brief(k), code)
			}
		})
	}
	if ends[1] == 0 || ends[6] == 0 || ends[10] == 0 || len(ends) != 3 {
		t.Errorf("the plans ended behind these numbers of steps: %v", ends)
	}
}

// wantBeginning adds the records of the plan and lets power fall: the old log with a beginning of them is told, by how many bytes were left; all if both steps were done.
func wantBeginning(t *testing.T, name string, a, b impl.Wal, s impl.Snap) {
	t.Helper()
	recs, _ := slowChanges(a, b)
	plan := impl.PlanAdd(a, b)
	if len(plan) != 2 {
		t.Fatalf("%s: %s", name, brief(plan))
	}
	// states are the logs behind each record, ends the bytes up to there.
	states, ends := []impl.Wal{a}, []int{0}
	for i, r := range recs {
		next, fits := slowStep(states[i], r)
		if !fits {
			t.Fatalf("%s: %s does not fit", name, brief(r))
		}
		states, ends = append(states, next), append(ends, ends[i]+len(logOf(r)))
	}
	d := keptDisk(a, s)
	for n := range len(plan) + 1 {
		e, done, code := impl.DoSteps(d, plan, n)
		if done != n || code != impl.DkOk {
			t.Fatalf("%s: %d of %d steps, code %d", name, done, n, code)
		}
		eachCrash(e, func(how string, crashed impl.Disk, _, cut int) {
			left := min(max(cut, 0), longestLoose(e))
			if n == 2 {
				left = ends[len(recs)]
			}
			whole := 0
			for whole < len(recs) && ends[whole+1] <= left {
				whole++
			}
			want := impl.Kept{Wal: states[whole], Snap: s, Dirty: ends[whole] < left}
			wantRecover(t, fmt.Sprintf("%s, %d steps, %s", name, n, how), crashed, want, impl.KpOk)
		})
	}
	e, _, _ := impl.DoSteps(d, plan, 2)
	wantRecover(t, name+", both steps", impl.Crash(e, 0, nil), impl.Kept{Wal: b, Snap: s}, impl.KpOk)
}

func TestBeginningOfChanges(t *testing.T) {
	w, s := richWal(), snapOf()
	e := w.Entries
	full := sameEntries(impl.MaxLog-1, 6, strings.Repeat("x", impl.MaxData))
	for _, c := range []struct {
		name string
		a, b impl.Wal
	}{
		{"a vote", walAt(6, -1, 7, 3), walAt(6, 2, 7, 3)},
		{"a term", w, walAt(7, -1, 7, 3, e...)},
		{"entries", walAt(6, 2, 7, 3), w},
		{"a cut", w, walAt(6, 2, 7, 3, e[0])},
		{"a cut of all", w, walAt(6, 2, 7, 3)},
		{"a cut and entries", w, walAt(6, 2, 7, 3, e[0], e[0], e[2], impl.Entry{Term: 6, Data: allBytes()})},
		{"all kinds", w, walAt(9, 4, 7, 3, e[1], impl.Entry{Term: 9}, impl.Entry{Term: 9, Data: "z"})},
		{"a full log", walAt(6, 2, 7, 3, e[0]), walAt(6, 2, 7, 3, append([]impl.Entry{e[0]}, full...)...)},
		{"one of full Data", w, walAt(6, 2, 7, 3, append(slices.Clone(e), full[0])...)},
		// An entry whose Data are the frames of records themselves.
		{"records inside", w, walAt(6, 2, 7, 3, append(slices.Clone(e), impl.Entry{Term: 6, Data: logOf(impl.Rec{Kind: impl.RcCut, Index: 8}, impl.Rec{Kind: impl.RcHard, Term: 9})})...)},
	} {
		wantBeginning(t, c.name, c.a, c.b, s)
	}
	wantBeginning(t, "from the first entry on", impl.Wal{Vote: -1}, impl.Wal{Term: 1, Vote: 2, Entries: entriesOf(1, 1)}, impl.Snap{})
}

// laterSnap is a snapshot above Base: of an entry, of another term, or beyond them.
func laterSnap(r *rand.Rand, w impl.Wal) impl.Snap {
	s := impl.Snap{Index: min(w.Base+1+r.IntN(len(w.Entries)+3), impl.MaxIndex), Term: pick(r, 1, max(w.BaseTerm, 1), max(w.Term, 1), w.Term+1), Data: rising(r.IntN(30), false)}
	if at := s.Index - w.Base - 1; at < len(w.Entries) && r.IntN(3) > 0 {
		s.Term = w.Entries[at].Term
	}
	return s
}

// A server's disk led on by plans of each kind that end anywhere, with power that falls between: what is told is always one of what may be.
func TestKeepWalks(t *testing.T) {
	counts := map[string]int{}
	for seed := range uint64(250) {
		r := rand.New(rand.NewPCG(seed, 666))
		k := impl.Kept{Wal: impl.Wal{Vote: -1}}
		d := keptDisk(k.Wal, k.Snap)
		for range 40 {
			var plan []impl.Step
			// may is what may be told if the plan ends early, the last of it what is told if it does not.
			may := []impl.Kept{k}
			next := k.Wal
			for range 1 + r.IntN(3) {
				next, _ = slowStep(next, someStep(r, next))
			}
			kind := pick(r, "add", "add", "add", "log", "snap")
			switch kind {
			case "add":
				plan = impl.PlanAdd(k.Wal, next)
				recs, _ := slowChanges(k.Wal, next)
				for _, rec := range recs {
					w, _ := slowStep(may[len(may)-1].Wal, rec)
					may = append(may, impl.Kept{Wal: w, Snap: k.Snap})
				}
			case "log":
				plan = impl.PlanLog(d, next)
				may = append(may, impl.Kept{Wal: next, Snap: k.Snap})
			case "snap":
				if k.Wal.Base > impl.MaxIndex-10 || k.Wal.Term > impl.MaxTerm-10 {
					continue
				}
				s := laterSnap(r, k.Wal)
				behind := slowBehind(k.Wal, s)
				plan = impl.PlanSnap(d, s, behind)
				may = append(may, impl.Kept{Wal: behind, Snap: s})
			}
			n := r.IntN(len(plan) + 1)
			if r.IntN(3) == 0 {
				n = len(plan)
			}
			e, done, code := impl.DoSteps(d, plan, n)
			if done != n || code != impl.DkOk {
				t.Fatalf("%s: %d of %d steps, code %d", kind, done, n, code)
			}
			if n < len(plan) || r.IntN(3) == 0 {
				cuts := make([]int, len(e.Inodes))
				for i := range cuts {
					cuts[i] = r.IntN(longestLoose(e) + 2)
				}
				e = impl.Crash(e, r.IntN(len(e.Moves)+2), cuts)
			}
			got, code := impl.Recover(e)
			want, wantCode := slowRecover(e)
			if !sameKept(got, want) || code != wantCode || code != impl.KpOk {
				t.Fatalf("%s: Recover of %s\n= %s, %d\nby the words %s, %d", kind, brief(e), brief(got), code, brief(want), wantCode)
			}
			at := slices.IndexFunc(may, func(m impl.Kept) bool { return sameTold(m, got) })
			if at < 0 || n == len(plan) && !sameTold(got, may[len(may)-1]) {
				t.Fatalf("%s, %d of %d steps: told is %s\nwhich is none of %s", kind, n, len(plan), brief(got), brief(may))
			}
			counts[fmt.Sprintf("%s, the old %v", kind, at == 0)]++
			d, k = e, got
			if k.Dirty {
				d, k = cleaned(t, d, k)
			}
		}
	}
	for _, kind := range []string{"add", "log", "snap"} {
		for _, old := range []bool{true, false} {
			if name := fmt.Sprintf("%s, the old %v", kind, old); counts[name] < 100 {
				t.Errorf("%s: %d times only", name, counts[name])
			}
		}
	}
}

// cleaned is the disk with its log written anew, so that records can be added behind its last one.
func cleaned(t *testing.T, d impl.Disk, k impl.Kept) (impl.Disk, impl.Kept) {
	t.Helper()
	e, _, code := impl.DoSteps(d, impl.PlanLog(d, k.Wal), impl.MaxSteps)
	if code != impl.DkOk {
		t.Fatalf("the log is not written anew: %d", code)
	}
	want := impl.Kept{Wal: k.Wal, Snap: k.Snap, Dirty: slowHas(d, "snap.new")}
	wantRecover(t, "cleaned", e, want, impl.KpOk)
	return e, want
}

// Disks that are answered are no part of the one that was handed in, and that one is not written into.
func TestKeepAnswersNewMemory(t *testing.T) {
	calls := []diskCall{}
	for _, kind := range stepKinds() {
		for _, name := range []string{"b", "new", "none", "No"} {
			calls = append(calls, callOf(impl.Step{Kind: kind, Name: name, To: "c", Data: "x"}))
		}
	}
	steps := []impl.Step{{Kind: impl.StMake, Name: "new"}, {Kind: impl.StAdd, Name: "new", Data: "x"}, {Kind: impl.StDrop, Name: "b"}, {Kind: impl.StDir}, {Kind: 9}}
	for _, list := range [][]impl.Step{nil, steps[:1], steps[:2], steps[:3], steps, manySteps(impl.MaxSteps + 1)} {
		calls = append(calls, diskCall{name: "DoSteps", do: func(d impl.Disk) (impl.Disk, int) {
			d, _, code := impl.DoSteps(d, list, len(list))
			return d, code
		}})
	}
	notRight := richDisk()
	notRight.Next = 1
	for _, ahead := range []impl.Disk{richDisk(), {Room: 1, Next: 1}, notRight} {
		for _, c := range calls {
			d := withSpare(ahead)
			first, _ := c.do(d)
			kept := copyDisk(first)
			second, _ := c.do(d)
			overwrite(second)
			whole := impl.Disk{Room: d.Room, Next: d.Next, Inodes: d.Inodes[:len(d.Inodes)+2], Dir: d.Dir[:len(d.Dir)+2], Moves: d.Moves[:len(d.Moves)+2]}
			was := withSpare(ahead)
			if !sameDisk(whole, impl.Disk{Room: was.Room, Next: was.Next, Inodes: was.Inodes[:len(was.Inodes)+2], Dir: was.Dir[:len(was.Dir)+2], Moves: was.Moves[:len(was.Moves)+2]}) {
				t.Fatalf("%s wrote into its argument, or its answer is part of it: %#v", c.name, whole)
			}
			overwrite(d)
			if !sameDisk(first, kept) {
				t.Fatalf("%s: the answer hangs on its argument, or on another answer: %#v", c.name, first)
			}
		}
	}
}

func TestKeepPlansAreNewMemory(t *testing.T) {
	a, b := spareWal(walAt(6, 2, 7, 3)), spareWal(richWal())
	d := withSpare(keptDisk(richWal(), snapOf(), "log.new", "snap.new"))
	plans := func() [][]impl.Step {
		return [][]impl.Step{impl.PlanAdd(a, b), impl.PlanLog(d, b), impl.PlanSnap(d, snapOf(), b)}
	}
	first := plans()
	for _, plan := range plans() {
		for i := range plan[:cap(plan)] {
			plan[:cap(plan)][i] = impl.Step{Kind: 99}
		}
	}
	impl.Recover(d)
	if !sameWal(withRoom(a), withRoom(spareWal(walAt(6, 2, 7, 3)))) || !sameWal(withRoom(b), withRoom(spareWal(richWal()))) {
		t.Errorf("a plan wrote into a Wal: %#v, %#v", withRoom(a), withRoom(b))
	}
	whole, was := d, withSpare(keptDisk(richWal(), snapOf(), "log.new", "snap.new"))
	for _, x := range []*impl.Disk{&whole, &was} {
		x.Inodes, x.Dir, x.Moves = x.Inodes[:len(x.Inodes)+2], x.Dir[:len(x.Dir)+2], x.Moves[:len(x.Moves)+2]
	}
	if !sameDisk(whole, was) {
		t.Errorf("a plan, or Recover, wrote into the disk: %#v", whole)
	}
	for i, plan := range plans() {
		if !slices.Equal(plan, first[i]) {
			t.Errorf("plan %d: %#v, ahead %#v", i, plan, first[i])
		}
	}
}

func TestKeepAnswersNewTexts(t *testing.T) {
	s := impl.Snap{Index: 7, Term: 3, Data: strings.Repeat("long ", 20)}
	text := impl.ShowSnap(s)
	if x, ok := impl.ReadSnap(text); !ok || sharesBytes(x.Data, text) {
		t.Errorf("ReadSnap hands out bytes of its argument, or none: %#v", x)
	}
	d := keptDisk(richWal(), s)
	k, code := impl.Recover(d)
	for _, n := range d.Inodes {
		if code != impl.KpOk || sharesBytes(k.Snap.Data, n.Data) || slices.ContainsFunc(k.Wal.Entries, func(e impl.Entry) bool { return sharesBytes(e.Data, n.Data) }) {
			t.Errorf("Recover hands out bytes of the disk, or none: %#v, %d", k, code)
		}
	}
	step := impl.Step{Kind: impl.StMake, Name: strings.Repeat("n", 9)}
	add := impl.Step{Kind: impl.StAdd, Name: step.Name, Data: strings.Repeat("long ", 20)}
	made, _, _ := impl.DoSteps(newDisk(t, 1000), []impl.Step{step, add}, 2)
	if sharesBytes(made.Moves[0].Name, step.Name) || sharesBytes(made.Inodes[0].Data, add.Data) {
		t.Errorf("DoSteps hands out bytes of a step: %#v", made)
	}
	handedBack, _, _ := impl.DoSteps(d, manySteps(impl.MaxSteps+1), 1)
	rich := richDisk()
	handedRich, _, _ := impl.DoSteps(rich, manySteps(impl.MaxSteps+1), 1)
	for i, n := range d.Inodes {
		if sharesBytes(handedBack.Inodes[i].Data, n.Data) || sharesBytes(handedBack.Dir[i].Name, d.Dir[i].Name) {
			t.Errorf("DoSteps hands out bytes of the disk: %#v", n)
		}
	}
	for i, m := range rich.Moves {
		if sharesBytes(handedRich.Moves[i].Name, m.Name) || sharesBytes(handedRich.Moves[i].To, m.To) {
			t.Errorf("DoSteps hands out bytes of the disk: %#v", m)
		}
	}
}
