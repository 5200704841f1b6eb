package tests

import (
	"fmt"
	"math"
	"math/rand/v2"
	"slices"
	"strings"
	"testing"

	"loop.example/g00360/impl"
)

// Promise 4: a right disk stays right, a refusal changes nothing; what was synced under a safe name is there behind any Crash, with a beginning of what was added behind it; a second Crash changes nothing.

// The slow functions do the document's words with plain lists, to be held against the program.

func slowName(s string) bool {
	return len(s) >= 1 && len(s) <= 12 && strings.Trim(s, "abcdefghijklmnopqrstuvwxyz0123456789.") == ""
}

// slowAt is where the name stands among the links; -1 where it does not.
func slowAt(links []impl.Link, name string) int {
	return slices.IndexFunc(links, func(l impl.Link) bool { return l.Name == name })
}

// slowApply is the links with the Move applied, and whether it fits.
func slowApply(links []impl.Link, m impl.Move) ([]impl.Link, bool) {
	out := slices.Clone(links)
	at := slowAt(out, m.Name)
	switch {
	case m.Kind == impl.MvMake && at < 0 && m.To == "":
		out = append(out, impl.Link{Name: m.Name, Id: m.Id})
	case m.Kind == impl.MvName && at >= 0 && slowName(m.To) && m.To != m.Name && m.Id == 0:
		id := out[at].Id
		out = slices.DeleteFunc(out, func(l impl.Link) bool { return l.Name == m.Name || l.Name == m.To })
		out = append(out, impl.Link{Name: m.To, Id: id})
	case m.Kind == impl.MvDrop && at >= 0 && m.To == "" && m.Id == 0:
		out = slices.Delete(out, at, at+1)
	default:
		return links, false
	}
	slices.SortFunc(out, func(a, b impl.Link) int { return strings.Compare(a.Name, b.Name) })
	return out, true
}

// slowNames is Dir with the first many Moves applied.
func slowNames(d impl.Disk, many int) []impl.Link {
	links := slices.Clone(d.Dir)
	for i, m := range d.Moves {
		if i < many {
			links, _ = slowApply(links, m)
		}
	}
	return links
}

func slowNow(d impl.Disk) []impl.Link {
	return slowNames(d, len(d.Moves))
}

func slowBytes(d impl.Disk) int {
	all := 0
	for _, n := range d.Inodes {
		all += len(n.Data)
	}
	return all
}

func slowInodesRight(d impl.Disk) bool {
	for i, n := range d.Inodes {
		if n.Id < 1 || n.Id > d.Next-1 || n.Sure < 0 || n.Sure > len(n.Data) || i > 0 && n.Id <= d.Inodes[i-1].Id {
			return false
		}
	}
	return len(d.Inodes) <= 10 && slowBytes(d) <= d.Room
}

func slowRight(d impl.Disk) bool {
	if d.Room < 0 || d.Room > 1048576 || d.Next < 1 || d.Next > 1000000 || !slowInodesRight(d) || len(d.Moves) > 20 {
		return false
	}
	var begun []int
	for i, l := range d.Dir {
		if !slowName(l.Name) || i > 0 && l.Name <= d.Dir[i-1].Name {
			return false
		}
		begun = append(begun, l.Id)
	}
	links := d.Dir
	for _, m := range d.Moves {
		fits := false
		if links, fits = slowApply(links, m); !fits || !slowName(m.Name) {
			return false
		}
		if m.Kind == impl.MvMake {
			begun = append(begun, m.Id)
		}
	}
	var ids []int
	for _, n := range d.Inodes {
		ids = append(ids, n.Id)
	}
	slices.Sort(begun)
	return slices.Equal(ids, begun)
}

// slowSettled is the disk with these links as Dir, and no more.
func slowSettled(d impl.Disk, links []impl.Link) impl.Disk {
	out := impl.Disk{Room: d.Room, Next: d.Next, Dir: links}
	for _, n := range d.Inodes {
		if slices.ContainsFunc(links, func(l impl.Link) bool { return l.Id == n.Id }) {
			out.Inodes = append(out.Inodes, n)
		}
	}
	return out
}

func slowCrash(d impl.Disk, keep int, cuts []int) impl.Disk {
	if !slowRight(d) {
		return impl.Disk{}
	}
	cut := copyDisk(d)
	for i, n := range cut.Inodes {
		left := n.Sure
		for taken := 0; i < len(cuts) && taken < cuts[i] && left < len(n.Data); taken++ {
			left++
		}
		cut.Inodes[i] = impl.Inode{Id: n.Id, Data: n.Data[:left], Sure: left}
	}
	return slowSettled(cut, slowNames(d, keep))
}

// slowCode is why a call of this name is refused; DkOk where it is not for the name's sake.
func slowCode(d impl.Disk, name string) int {
	switch {
	case !slowName(name):
		return impl.DkBad
	case slowAt(slowNow(d), name) < 0:
		return impl.DkNone
	}
	return impl.DkOk
}

// slowFile is the number among the Inodes of what has this name now.
func slowFile(d impl.Disk, name string) int {
	links := slowNow(d)
	id := links[slowAt(links, name)].Id
	return slices.IndexFunc(d.Inodes, func(n impl.Inode) bool { return n.Id == id })
}

// A diskCall is a call that answers a disk and a code, by the program and by the words.
type diskCall struct {
	name string
	do   func(d impl.Disk) (impl.Disk, int)
	slow func(d impl.Disk) (impl.Disk, int) // of a right disk; the disk is its own
}

func callMake(name string) diskCall {
	return diskCall{
		fmt.Sprintf("Make(%q)", name),
		func(d impl.Disk) (impl.Disk, int) { return impl.Make(d, name) },
		func(d impl.Disk) (impl.Disk, int) {
			switch code := slowCode(d, name); {
			case code == impl.DkBad:
				return d, impl.DkBad
			case code == impl.DkOk:
				return d, impl.DkThere
			case len(d.Inodes) == 10 || len(d.Moves) == 20 || d.Next == 1000000:
				return d, impl.DkFull
			}
			d.Inodes = append(d.Inodes, impl.Inode{Id: d.Next})
			d.Moves = append(d.Moves, impl.Move{Kind: impl.MvMake, Name: name, Id: d.Next})
			d.Next++
			return d, impl.DkOk
		},
	}
}

func callAdd(name, data string) diskCall {
	return diskCall{
		fmt.Sprintf("Add(%q, %d bytes)", name, len(data)),
		func(d impl.Disk) (impl.Disk, int) { return impl.Add(d, name, data) },
		func(d impl.Disk) (impl.Disk, int) {
			if code := slowCode(d, name); code != impl.DkOk {
				return d, code
			}
			if slowBytes(d)+len(data) > d.Room {
				return d, impl.DkFull
			}
			d.Inodes[slowFile(d, name)].Data += data
			return d, impl.DkOk
		},
	}
}

func callSync(name string) diskCall {
	return diskCall{
		fmt.Sprintf("Sync(%q)", name),
		func(d impl.Disk) (impl.Disk, int) { return impl.Sync(d, name) },
		func(d impl.Disk) (impl.Disk, int) {
			code := slowCode(d, name)
			if code == impl.DkOk {
				n := &d.Inodes[slowFile(d, name)]
				n.Sure = len(n.Data)
			}
			return d, code
		},
	}
}

func callRename(from, to string) diskCall {
	return diskCall{
		fmt.Sprintf("Rename(%q, %q)", from, to),
		func(d impl.Disk) (impl.Disk, int) { return impl.Rename(d, from, to) },
		func(d impl.Disk) (impl.Disk, int) {
			if !slowName(from) || !slowName(to) || from == to {
				return d, impl.DkBad
			}
			return slowMove(d, from, impl.Move{Kind: impl.MvName, Name: from, To: to})
		},
	}
}

func callDrop(name string) diskCall {
	return diskCall{
		fmt.Sprintf("Drop(%q)", name),
		func(d impl.Disk) (impl.Disk, int) { return impl.Drop(d, name) },
		func(d impl.Disk) (impl.Disk, int) {
			return slowMove(d, name, impl.Move{Kind: impl.MvDrop, Name: name})
		},
	}
}

func slowMove(d impl.Disk, name string, m impl.Move) (impl.Disk, int) {
	if code := slowCode(d, name); code != impl.DkOk {
		return d, code
	}
	if len(d.Moves) == 20 {
		return d, impl.DkFull
	}
	d.Moves = append(d.Moves, m)
	return d, impl.DkOk
}

func callSyncDir() diskCall {
	return diskCall{
		"SyncDir()",
		impl.SyncDir,
		func(d impl.Disk) (impl.Disk, int) { return slowSettled(d, slowNow(d)), impl.DkOk },
	}
}

func copyDisk(d impl.Disk) impl.Disk {
	return impl.Disk{Room: d.Room, Next: d.Next, Inodes: slices.Clone(d.Inodes), Dir: slices.Clone(d.Dir), Moves: slices.Clone(d.Moves)}
}

func sameDisk(a, b impl.Disk) bool {
	return a.Room == b.Room && a.Next == b.Next && slices.Equal(a.Inodes, b.Inodes) && slices.Equal(a.Dir, b.Dir) && slices.Equal(a.Moves, b.Moves)
}

// wantCall tells where the call answers otherwise than wanted, or writes into the disk that it is handed; a right disk must stay right.
func wantCall(t *testing.T, c diskCall, d, want impl.Disk, wantCode int) impl.Disk {
	t.Helper()
	ahead := copyDisk(d)
	got, code := c.do(d)
	if !sameDisk(got, want) || code != wantCode {
		t.Fatalf("%s of %#v\n= %#v, %d\nwant %#v, %d", c.name, ahead, got, code, want, wantCode)
	}
	if !sameDisk(d, ahead) {
		t.Fatalf("%s of %#v made it %#v", c.name, ahead, d)
	}
	if slowRight(d) && !impl.DiskOk(got) {
		t.Fatalf("%s of %#v\n= %#v, that is not right", c.name, ahead, got)
	}
	return got
}

// wantRefused wants the code and the disk as it is.
func wantRefused(t *testing.T, c diskCall, d impl.Disk, code int) {
	t.Helper()
	wantCall(t, c, d, d, code)
}

// wantDone wants DkOk and what the words make of it.
func wantDone(t *testing.T, c diskCall, d impl.Disk) impl.Disk {
	t.Helper()
	want, code := c.slow(copyDisk(d))
	if code != impl.DkOk {
		t.Fatalf("%s of %#v is refused by the words: %d", c.name, d, code)
	}
	return wantCall(t, c, d, want, impl.DkOk)
}

// doAll does calls that are not refused, one behind the other.
func doAll(t *testing.T, d impl.Disk, calls ...diskCall) impl.Disk {
	t.Helper()
	for _, c := range calls {
		d = wantDone(t, c, d)
	}
	return d
}

func newDisk(t *testing.T, room int) impl.Disk {
	t.Helper()
	d, ok := impl.NewDisk(room)
	if !ok {
		t.Fatalf("NewDisk(%d) is refused", room)
	}
	return d
}

// richDisk is right, with each kind of Move: Inode 1 has lost its name to a rename, 2 to a drop, 5 was only ever a MvMake's; b and z are the names now.
func richDisk() impl.Disk {
	return impl.Disk{
		Room:   40,
		Next:   8,
		Inodes: []impl.Inode{{Id: 1, Data: "abcdef", Sure: 3}, {Id: 2}, {Id: 4, Data: "xyz", Sure: 2}, {Id: 5, Data: "pq"}, {Id: 6, Data: "rs", Sure: 1}},
		Dir:    []impl.Link{{Name: "a", Id: 1}, {Name: "b", Id: 2}, {Name: "log", Id: 4}},
		Moves: []impl.Move{
			{Kind: impl.MvMake, Name: "c", Id: 5},
			{Kind: impl.MvName, Name: "a", To: "z"},
			{Kind: impl.MvDrop, Name: "b"},
			{Kind: impl.MvMake, Name: "b", Id: 6},
			{Kind: impl.MvDrop, Name: "c"},
			{Kind: impl.MvName, Name: "log", To: "z"},
		},
	}
}

// fullOfMoves is a disk with as many Moves as there may be; a is the name now.
func fullOfMoves(t *testing.T) impl.Disk {
	t.Helper()
	d := doAll(t, newDisk(t, 9), callMake("a"), callAdd("a", "data"))
	for len(d.Moves) < impl.MaxMoves-1 {
		d = doAll(t, d, callRename("a", "b"), callRename("b", "a"))
	}
	return doAll(t, d, callRename("a", "b"))
}

// badNames are no names: too short, too long, or with a byte that none has.
func badNames() []string {
	l := []string{"", strings.Repeat("a", impl.MaxName+1), strings.Repeat("a", 70000), "a b", "a\x00", "\x00a", "Log", "loG", "a_b", "a-b", "a/b", "a\xff", "caf\u00e9", " a", "a\n"}
	for b := range 256 {
		if s := string([]byte{byte(b)}); !strings.Contains("abcdefghijklmnopqrstuvwxyz0123456789.", s) {
			l = append(l, s, "a"+s, s+"a", strings.Repeat("a", impl.MaxName-1)+s)
		}
	}
	return l
}

// goodNames are names, the shortest and the longest, and each byte that one may have.
func goodNames() []string {
	l := []string{"log", "log.new", "..", ".a", "a.", "000", strings.Repeat("z", impl.MaxName), strings.Repeat(".", impl.MaxName), strings.Repeat("9", impl.MaxName-1)}
	for _, s := range strings.Split("abcdefghijklmnopqrstuvwxyz0123456789.", "") {
		l = append(l, s)
	}
	return l
}

func TestDiskConstants(t *testing.T) {
	got := []int{impl.MaxName, impl.MaxInodes, impl.MaxMoves, impl.MaxRoom, impl.MaxId, impl.MvMake, impl.MvName, impl.MvDrop, impl.DkOk, impl.DkBad, impl.DkNone, impl.DkThere, impl.DkFull}
	if want := []int{12, 10, 20, 1048576, 1000000, 1, 2, 3, 0, 1, 2, 3, 4}; !slices.Equal(got, want) {
		t.Errorf("%v, want %v", got, want)
	}
}

func TestNewDiskRooms(t *testing.T) {
	for _, room := range []int{0, 1, 40, impl.MaxRoom - 1, impl.MaxRoom} {
		d, ok := impl.NewDisk(room)
		if !ok || !sameDisk(d, impl.Disk{Room: room, Next: 1}) || !impl.DiskOk(d) || len(impl.List(d)) != 0 {
			t.Errorf("NewDisk(%d) = %#v, %v", room, d, ok)
		}
	}
	for _, room := range []int{math.MinInt, -impl.MaxRoom, -1, impl.MaxRoom + 1, math.MaxInt} {
		if d, ok := impl.NewDisk(room); ok || !sameDisk(d, impl.Disk{}) {
			t.Errorf("NewDisk(%d) = %#v, %v", room, d, ok)
		}
	}
}

// A disk from its first file on, each answer written out by hand.
func TestDiskStory(t *testing.T) {
	inode := func(data string, sure int) []impl.Inode {
		return []impl.Inode{{Id: 1, Data: data, Sure: sure}}
	}
	log := []impl.Link{{Name: "log", Id: 1}}
	made := []impl.Move{{Kind: impl.MvMake, Name: "log", Id: 1}}
	named := []impl.Move{{Kind: impl.MvName, Name: "log", To: "old"}}
	dropped := append(slices.Clone(named), impl.Move{Kind: impl.MvDrop, Name: "old"})
	d := newDisk(t, 9)
	for _, s := range []struct {
		call diskCall
		want impl.Disk
	}{
		{callMake("log"), impl.Disk{Room: 9, Next: 2, Inodes: inode("", 0), Moves: made}},
		{callAdd("log", "abc"), impl.Disk{Room: 9, Next: 2, Inodes: inode("abc", 0), Moves: made}},
		{callSync("log"), impl.Disk{Room: 9, Next: 2, Inodes: inode("abc", 3), Moves: made}},
		{callAdd("log", "de"), impl.Disk{Room: 9, Next: 2, Inodes: inode("abcde", 3), Moves: made}},
		{callSyncDir(), impl.Disk{Room: 9, Next: 2, Inodes: inode("abcde", 3), Dir: log}},
		{callRename("log", "old"), impl.Disk{Room: 9, Next: 2, Inodes: inode("abcde", 3), Dir: log, Moves: named}},
		{callAdd("old", "f"), impl.Disk{Room: 9, Next: 2, Inodes: inode("abcdef", 3), Dir: log, Moves: named}},
		{callDrop("old"), impl.Disk{Room: 9, Next: 2, Inodes: inode("abcdef", 3), Dir: log, Moves: dropped}},
		{callSyncDir(), impl.Disk{Room: 9, Next: 2}},
		{callSyncDir(), impl.Disk{Room: 9, Next: 2}},
	} {
		d = wantCall(t, s.call, d, s.want, impl.DkOk)
	}
}

func TestListAndLoad(t *testing.T) {
	d := richDisk()
	if l := impl.List(d); !slices.Equal(l, []string{"b", "z"}) {
		t.Errorf("List = %q", l)
	}
	for name, want := range map[string]string{"b": "rs", "z": "xyz"} {
		if s, ok := impl.Load(d, name); !ok || s != want {
			t.Errorf("Load(%q) = %q, %v", name, s, ok)
		}
	}
	for _, name := range append(badNames(), "a", "c", "log", "bb", "zz", "none") {
		if s, ok := impl.Load(d, name); ok || s != "" {
			t.Errorf("Load(%q) = %q, %v", name, s, ok)
		}
	}
	// Made from the last name to the first, told from the first to the last.
	d = newDisk(t, 10)
	for _, name := range []string{"z", "log.new", "log", "b", "a", "9", "0a", "0", ".z", "."} {
		d = doAll(t, d, callMake(name), callAdd(name, name[:1]))
	}
	for _, x := range []impl.Disk{d, doAll(t, d, callSyncDir())} {
		if l := impl.List(x); !slices.Equal(l, []string{".", ".z", "0", "0a", "9", "a", "b", "log", "log.new", "z"}) {
			t.Errorf("List = %q", l)
		}
		if s, ok := impl.Load(x, "log.new"); !ok || s != "l" {
			t.Errorf("Load = %q, %v", s, ok)
		}
	}
	if s, ok := impl.Load(doAll(t, newDisk(t, 0), callMake("a")), "a"); !ok || s != "" {
		t.Errorf("Load of no Data = %q, %v", s, ok)
	}
}

func TestDiskGoodNames(t *testing.T) {
	for _, name := range goodNames() {
		other := "b"
		if name == other {
			other = "c"
		}
		d := doAll(t, newDisk(t, 9), callMake(name), callAdd(name, "x"), callSync(name), callSyncDir(), callRename(name, other), callRename(other, name))
		if l := impl.List(d); !slices.Equal(l, []string{name}) {
			t.Errorf("List = %q, want %q alone", l, name)
		}
		if s, ok := impl.Load(d, name); !ok || s != "x" {
			t.Errorf("Load(%q) = %q, %v", name, s, ok)
		}
		doAll(t, d, callDrop(name), callMake(name))
	}
}

// A name that is none is told ahead of every other reason.
func TestDiskBadNames(t *testing.T) {
	for _, d := range []impl.Disk{richDisk(), newDisk(t, 0), fullOfMoves(t)} {
		for _, name := range badNames() {
			for _, c := range []diskCall{callMake(name), callAdd(name, "more than there is room for, at any rate"), callAdd(name, ""), callSync(name), callDrop(name), callRename(name, "b"), callRename("b", name), callRename("none", name), callRename(name, name), callRename(name, "")} {
				wantRefused(t, c, d, impl.DkBad)
			}
		}
	}
}

func TestDiskNoSuchName(t *testing.T) {
	for _, d := range []impl.Disk{richDisk(), newDisk(t, 0), fullOfMoves(t)} {
		for _, name := range []string{"c", "log", "none", strings.Repeat("n", impl.MaxName)} {
			for _, c := range []diskCall{callAdd(name, ""), callAdd(name, "more than there is room for, at any rate"), callSync(name), callDrop(name), callRename(name, "b"), callRename(name, "z")} {
				wantRefused(t, c, d, impl.DkNone)
			}
		}
	}
}

func TestMakeThere(t *testing.T) {
	for _, name := range []string{"b", "z"} {
		wantRefused(t, callMake(name), richDisk(), impl.DkThere)
	}
	// Names that were there, and are not now, are made anew.
	for _, name := range []string{"a", "c", "log"} {
		d := wantDone(t, callMake(name), richDisk())
		if s, ok := impl.Load(d, name); !ok || s != "" || d.Next != 9 {
			t.Errorf("Load(%q) = %q, %v", name, s, ok)
		}
	}
}

func TestMakeFullOfInodes(t *testing.T) {
	names := strings.Split("jihgfedcba", "")
	d := newDisk(t, 9)
	for i, name := range names {
		d = wantDone(t, callMake(name), d)
		if len(d.Inodes) != i+1 || d.Next != i+2 {
			t.Fatalf("%#v", d)
		}
	}
	wantRefused(t, callMake("k"), d, impl.DkFull)
	wantRefused(t, callMake("a"), d, impl.DkThere)
	wantRefused(t, callMake("A"), d, impl.DkBad)
	// A name that is dropped leaves its Inode until the names are safe.
	d = wantDone(t, callDrop("a"), d)
	wantRefused(t, callMake("k"), d, impl.DkFull)
	d = doAll(t, d, callSyncDir(), callMake("k"))
	if len(d.Inodes) != impl.MaxInodes || d.Next != 12 || d.Inodes[9].Id != 11 {
		t.Errorf("%#v", d)
	}
	d = doAll(t, d, callSyncDir())
	wantRefused(t, callMake("l"), d, impl.DkFull)
	// Inodes that only a MvMake had fill the disk, too.
	d = newDisk(t, 9)
	for range impl.MaxInodes {
		d = doAll(t, d, callMake("a"), callDrop("a"))
	}
	if len(d.Moves) != impl.MaxMoves || len(d.Inodes) != impl.MaxInodes || len(impl.List(d)) != 0 {
		t.Errorf("%#v", d)
	}
	wantRefused(t, callMake("a"), d, impl.DkFull)
	doAll(t, d, callSyncDir(), callMake("a"))
}

func TestDiskFullOfMoves(t *testing.T) {
	d := fullOfMoves(t)
	if len(d.Moves) != impl.MaxMoves || !slices.Equal(impl.List(d), []string{"b"}) {
		t.Fatalf("%#v", d)
	}
	for _, c := range []diskCall{callMake("c"), callRename("b", "c"), callDrop("b")} {
		wantRefused(t, c, d, impl.DkFull)
	}
	wantRefused(t, callMake("b"), d, impl.DkThere)
	wantRefused(t, callRename("b", "b"), d, impl.DkBad)
	wantRefused(t, callRename("a", "b"), d, impl.DkNone)
	wantRefused(t, callDrop("a"), d, impl.DkNone)
	doAll(t, d, callAdd("b", "more"), callSync("b"))
	doAll(t, d, callSyncDir(), callMake("c"), callRename("b", "c"), callDrop("c"))
}

func TestMakeAtMaxId(t *testing.T) {
	d := newDisk(t, 9)
	d.Next = impl.MaxId - 1
	d = wantDone(t, callMake("a"), d)
	if d.Next != impl.MaxId || d.Inodes[0].Id != impl.MaxId-1 {
		t.Errorf("%#v", d)
	}
	wantRefused(t, callMake("b"), d, impl.DkFull)
	wantRefused(t, callMake("a"), d, impl.DkThere)
	wantRefused(t, callMake("B"), d, impl.DkBad)
	d = doAll(t, d, callAdd("a", "x"), callRename("a", "b"), callSync("b"), callDrop("b"), callSyncDir())
	wantRefused(t, callMake("a"), d, impl.DkFull)
	if x := impl.Crash(d, 0, nil); !sameDisk(x, d) {
		t.Errorf("%#v", x)
	}
}

func TestAddFillsTheRoom(t *testing.T) {
	d := doAll(t, newDisk(t, 10), callMake("a"), callMake("b"), callAdd("a", "abcd"))
	wantRefused(t, callAdd("b", "1234567"), d, impl.DkFull)
	wantRefused(t, callAdd("a", "1234567"), d, impl.DkFull)
	d = wantDone(t, callAdd("b", "123456"), d)
	for _, name := range []string{"a", "b"} {
		wantRefused(t, callAdd(name, "x"), d, impl.DkFull)
		doAll(t, d, callAdd(name, ""), callSync(name))
	}
	// What was dropped takes room until the names are safe.
	d = wantDone(t, callDrop("a"), d)
	wantRefused(t, callAdd("b", "x"), d, impl.DkFull)
	d = doAll(t, d, callSyncDir(), callAdd("b", "789a"))
	wantRefused(t, callAdd("b", "x"), d, impl.DkFull)
	// So does what a rename put out of its place.
	d = doAll(t, newDisk(t, 2), callMake("a"), callAdd("a", "x"), callMake("b"), callAdd("b", "y"), callRename("a", "b"))
	wantRefused(t, callAdd("b", "z"), d, impl.DkFull)
	doAll(t, d, callSyncDir(), callAdd("b", "z"))
}

func TestAddAtTheRoomsEdges(t *testing.T) {
	d := wantDone(t, callMake("a"), newDisk(t, 0))
	wantRefused(t, callAdd("a", "x"), d, impl.DkFull)
	doAll(t, d, callAdd("a", ""), callSync("a"))
	all := strings.Repeat("x", impl.MaxRoom)
	d = wantDone(t, callMake("a"), newDisk(t, impl.MaxRoom))
	for _, c := range []diskCall{callAdd("a", all+"x"), callAdd("a", all+all)} {
		if x, code := c.do(d); code != impl.DkFull || !sameDisk(x, d) {
			t.Errorf("%s: %d", c.name, code)
		}
	}
	d, code := impl.Add(d, "a", all)
	if s, ok := impl.Load(d, "a"); code != impl.DkOk || !ok || s != all || !impl.DiskOk(d) {
		t.Errorf("Add of MaxRoom bytes: %d, %d bytes", code, len(s))
	}
	if x, code := impl.Add(d, "a", "x"); code != impl.DkFull || !sameDisk(x, d) {
		t.Errorf("Add of one byte more: %d", code)
	}
}

// Data may be any bytes, and come behind those that are there.
func TestAddAnyBytes(t *testing.T) {
	d := wantDone(t, callMake("a"), newDisk(t, 1000))
	want := ""
	for _, data := range []string{"\x00", allBytes(), "", "\xff\xfe", "end"} {
		d = wantDone(t, callAdd("a", data), d)
		want += data
		if s, ok := impl.Load(d, "a"); !ok || s != want {
			t.Fatalf("Load = %q, %v, want %q", s, ok, want)
		}
	}
	if d = wantDone(t, callSync("a"), d); d.Inodes[0].Sure != len(want) {
		t.Errorf("%d bytes of %d are safe", d.Inodes[0].Sure, len(want))
	}
}

func TestRename(t *testing.T) {
	two := doAll(t, newDisk(t, 9), callMake("a"), callAdd("a", "of a"), callMake("b"), callAdd("b", "of b"))
	for _, d := range []impl.Disk{two, doAll(t, two, callSyncDir())} {
		wantRefused(t, callRename("a", "a"), d, impl.DkBad)
		wantRefused(t, callRename("c", "c"), d, impl.DkBad)
		wantRefused(t, callRename("c", "a"), d, impl.DkNone)
		wantRefused(t, callRename("c", "d"), d, impl.DkNone)
		// To a name that is there: what that had is without a name, and goes when the names are safe.
		x := wantDone(t, callRename("a", "b"), d)
		if s, ok := impl.Load(x, "b"); !ok || s != "of a" || len(impl.List(x)) != 1 || len(x.Inodes) != 2 {
			t.Errorf("%q, %v, %#v", s, ok, x)
		}
		x = wantDone(t, callSyncDir(), x)
		if !slices.Equal(x.Inodes, []impl.Inode{{Id: 1, Data: "of a"}}) || !slices.Equal(x.Dir, []impl.Link{{Name: "b", Id: 1}}) {
			t.Errorf("%#v", x)
		}
		// To and fro, by a third name.
		x = doAll(t, d, callRename("a", "c"), callRename("b", "a"), callRename("c", "b"))
		a, _ := impl.Load(x, "a")
		b, _ := impl.Load(x, "b")
		if a != "of b" || b != "of a" || len(impl.List(x)) != 2 {
			t.Errorf("%q, %q, %#v", a, b, x)
		}
	}
}

func TestSyncDirOfTheRichDisk(t *testing.T) {
	want := impl.Disk{
		Room:   40,
		Next:   8,
		Inodes: []impl.Inode{{Id: 4, Data: "xyz", Sure: 2}, {Id: 6, Data: "rs", Sure: 1}},
		Dir:    []impl.Link{{Name: "b", Id: 6}, {Name: "z", Id: 4}},
	}
	d := wantCall(t, callSyncDir(), richDisk(), want, impl.DkOk)
	wantCall(t, callSyncDir(), d, want, impl.DkOk)
}

// wantCrash holds a Crash against the disk that is wanted, and against a second one.
func wantCrash(t *testing.T, d impl.Disk, keep int, cuts []int, want impl.Disk) {
	t.Helper()
	ahead, cutsAhead := copyDisk(d), slices.Clone(cuts)
	got := impl.Crash(d, keep, cuts)
	if !sameDisk(got, want) || !impl.DiskOk(got) {
		t.Fatalf("Crash of %#v, %d, %v\n= %#v\nwant %#v", ahead, keep, cuts, got, want)
	}
	if !sameDisk(d, ahead) || !slices.Equal(cuts, cutsAhead) {
		t.Fatalf("Crash of %#v, %d, %v made them %#v, %v", ahead, keep, cutsAhead, d, cuts)
	}
	for _, again := range []int{-1, 0, 1, impl.MaxMoves} {
		for _, cuts := range [][]int{nil, {0, 0}, {-1, 5, 1000}} {
			if x := impl.Crash(got, again, cuts); !sameDisk(x, got) {
				t.Fatalf("Crash of what was crashed, %#v, %d, %v\n= %#v", got, again, cuts, x)
			}
		}
	}
}

func TestCrashKeepsOfTheRichDisk(t *testing.T) {
	one, two, four, five, six := impl.Inode{Id: 1, Data: "abcde", Sure: 5}, impl.Inode{Id: 2}, impl.Inode{Id: 4, Data: "xy", Sure: 2}, impl.Inode{Id: 5, Data: "pq", Sure: 2}, impl.Inode{Id: 6, Data: "r", Sure: 1}
	safe := impl.Disk{Room: 40, Next: 8, Inodes: []impl.Inode{one, two, four}, Dir: richDisk().Dir}
	all := impl.Disk{Room: 40, Next: 8, Inodes: []impl.Inode{four, six}, Dir: []impl.Link{{Name: "b", Id: 6}, {Name: "z", Id: 4}}}
	for _, c := range []struct {
		keep int
		want impl.Disk
	}{
		{math.MinInt, safe},
		{-1, safe},
		{0, safe},
		{1, impl.Disk{Room: 40, Next: 8, Inodes: []impl.Inode{one, two, four, five}, Dir: []impl.Link{{Name: "a", Id: 1}, {Name: "b", Id: 2}, {Name: "c", Id: 5}, {Name: "log", Id: 4}}}},
		{2, impl.Disk{Room: 40, Next: 8, Inodes: []impl.Inode{one, two, four, five}, Dir: []impl.Link{{Name: "b", Id: 2}, {Name: "c", Id: 5}, {Name: "log", Id: 4}, {Name: "z", Id: 1}}}},
		{3, impl.Disk{Room: 40, Next: 8, Inodes: []impl.Inode{one, four, five}, Dir: []impl.Link{{Name: "c", Id: 5}, {Name: "log", Id: 4}, {Name: "z", Id: 1}}}},
		{4, impl.Disk{Room: 40, Next: 8, Inodes: []impl.Inode{one, four, five, six}, Dir: []impl.Link{{Name: "b", Id: 6}, {Name: "c", Id: 5}, {Name: "log", Id: 4}, {Name: "z", Id: 1}}}},
		{5, impl.Disk{Room: 40, Next: 8, Inodes: []impl.Inode{one, four, six}, Dir: []impl.Link{{Name: "b", Id: 6}, {Name: "log", Id: 4}, {Name: "z", Id: 1}}}},
		{6, all},
		{7, all},
		{impl.MaxMoves + 1, all},
		{math.MaxInt, all},
	} {
		// Within the data, above them, below 0, all of them, and none for the last Inode.
		wantCrash(t, richDisk(), c.keep, []int{2, 9, -1, 2}, c.want)
	}
}

func TestCrashCuts(t *testing.T) {
	d := doAll(t, newDisk(t, 20), callMake("a"), callMake("b"), callMake("c"), callAdd("a", "abc"), callSync("a"), callAdd("a", "def"), callAdd("b", "123"), callAdd("c", "xyz"), callSync("c"), callSyncDir())
	for _, c := range []struct {
		cuts    []int
		a, b, c string
	}{
		{nil, "abc", "", "xyz"},
		{[]int{}, "abc", "", "xyz"},
		{[]int{0, 0, 0}, "abc", "", "xyz"},
		{[]int{-1, -1, -1}, "abc", "", "xyz"},
		{[]int{math.MinInt, math.MinInt, math.MinInt}, "abc", "", "xyz"},
		{[]int{1}, "abcd", "", "xyz"},
		{[]int{2, 1}, "abcde", "1", "xyz"},
		{[]int{0, 2, 1}, "abc", "12", "xyz"},
		{[]int{3, 3, 0}, "abcdef", "123", "xyz"},
		{[]int{4, 4, 4}, "abcdef", "123", "xyz"},
		{[]int{-1, 3}, "abc", "123", "xyz"},
		{[]int{math.MaxInt, math.MaxInt, math.MaxInt}, "abcdef", "123", "xyz"},
		{[]int{1, 1, 1, 1, 1, 1, 1, 1, 1, 1, 1, 1}, "abcd", "1", "xyz"},
	} {
		want := impl.Disk{Room: 20, Next: 4, Dir: d.Dir}
		for i, data := range []string{c.a, c.b, c.c} {
			want.Inodes = append(want.Inodes, impl.Inode{Id: i + 1, Data: data, Sure: len(data)})
		}
		wantCrash(t, d, 0, c.cuts, want)
	}
}

// The numbers of cuts are those of all Inodes, also of those that go.
func TestCrashCutsCountWhatGoes(t *testing.T) {
	d := doAll(t, newDisk(t, 20), callMake("a"), callAdd("a", "aaa"), callMake("b"), callAdd("b", "bbb"), callSyncDir(), callDrop("a"))
	want := impl.Disk{Room: 20, Next: 3, Inodes: []impl.Inode{{Id: 2, Data: "bb", Sure: 2}}, Dir: []impl.Link{{Name: "b", Id: 2}}}
	wantCrash(t, d, 1, []int{3, 2}, want)
	want.Inodes[0] = impl.Inode{Id: 2}
	wantCrash(t, d, 1, []int{3}, want)
}

// An Inode that only a change of names has is right, and is there behind a Crash if just its MvMake is kept.
func TestOnlyAChangeOfNames(t *testing.T) {
	d := doAll(t, newDisk(t, 9), callMake("a"), callAdd("a", "abc"), callSync("a"), callDrop("a"))
	if !impl.DiskOk(d) || len(impl.List(d)) != 0 || len(d.Inodes) != 1 {
		t.Fatalf("%#v", d)
	}
	empty := impl.Disk{Room: 9, Next: 2}
	wantCrash(t, d, 0, nil, empty)
	wantCrash(t, d, 1, nil, impl.Disk{Room: 9, Next: 2, Inodes: []impl.Inode{{Id: 1, Data: "abc", Sure: 3}}, Dir: []impl.Link{{Name: "a", Id: 1}}})
	wantCrash(t, d, 2, nil, empty)
	wantCall(t, callSyncDir(), d, empty, impl.DkOk)
	// The same name made again has an Inode of its own.
	d = doAll(t, d, callMake("a"), callAdd("a", "x"))
	wantCrash(t, d, 1, nil, impl.Disk{Room: 9, Next: 3, Inodes: []impl.Inode{{Id: 1, Data: "abc", Sure: 3}}, Dir: []impl.Link{{Name: "a", Id: 1}}})
	wantCrash(t, d, 2, nil, impl.Disk{Room: 9, Next: 3})
	wantCrash(t, d, 3, []int{0, 1}, impl.Disk{Room: 9, Next: 3, Inodes: []impl.Inode{{Id: 2, Data: "x", Sure: 1}}, Dir: []impl.Link{{Name: "a", Id: 2}}})
}

// A name that was safe and is dropped is there behind a Crash that takes the drop.
func TestDroppedAndNotSynced(t *testing.T) {
	ahead := doAll(t, newDisk(t, 9), callMake("a"), callAdd("a", "abc"), callSync("a"), callSyncDir())
	d := doAll(t, ahead, callDrop("a"))
	if !impl.DiskOk(d) || len(impl.List(d)) != 0 || len(d.Inodes) != 1 {
		t.Fatalf("%#v", d)
	}
	for _, c := range []diskCall{callAdd("a", "x"), callSync("a"), callDrop("a"), callRename("a", "b")} {
		wantRefused(t, c, d, impl.DkNone)
	}
	wantCrash(t, d, 0, nil, ahead)
	wantCrash(t, d, 1, nil, impl.Disk{Room: 9, Next: 2})
}

// A badDisk is a disk that is not right, and how.
type badDisk struct {
	name string
	d    impl.Disk
}

// turned is the rich disk with one thing changed.
func turned(name string, change func(d *impl.Disk)) badDisk {
	d := richDisk()
	change(&d)
	return badDisk{name, d}
}

func badNumbersAndInodes() []badDisk {
	l := []badDisk{
		{"zero", impl.Disk{}},
		turned("Room -1", func(d *impl.Disk) { d.Room = -1 }),
		turned("Room MaxRoom + 1", func(d *impl.Disk) { d.Room = impl.MaxRoom + 1 }),
		turned("Room one less than the Data", func(d *impl.Disk) { d.Room = 12 }),
		turned("one byte too many", func(d *impl.Disk) { d.Room = 13; d.Inodes[1].Data = "x" }),
		turned("Next 0", func(d *impl.Disk) { d.Next = 0 }),
		turned("Next -1", func(d *impl.Disk) { d.Next = -1 }),
		turned("Next MaxId + 1", func(d *impl.Disk) { d.Next = impl.MaxId + 1 }),
		turned("Next the last Id", func(d *impl.Disk) { d.Next = 6 }),
		turned("Id 0", func(d *impl.Disk) { d.Inodes[0].Id = 0; d.Dir[0].Id = 0 }),
		turned("Id -1", func(d *impl.Disk) { d.Inodes[0].Id = -1; d.Dir[0].Id = -1 }),
		turned("Ids alike", func(d *impl.Disk) { d.Inodes[1].Id = 1; d.Dir[1].Id = 1 }),
		turned("Ids fall", func(d *impl.Disk) { d.Inodes[0], d.Inodes[1] = d.Inodes[1], d.Inodes[0] }),
		turned("Sure -1", func(d *impl.Disk) { d.Inodes[0].Sure = -1 }),
		turned("Sure above the Data", func(d *impl.Disk) { d.Inodes[0].Sure = 7 }),
		turned("Sure 1 without Data", func(d *impl.Disk) { d.Inodes[1].Sure = 1 }),
		turned("an Inode too many", func(d *impl.Disk) { d.Inodes = append(d.Inodes, impl.Inode{Id: 7}) }),
		turned("an Inode that neither has, ahead", func(d *impl.Disk) { d.Inodes = slices.Insert(d.Inodes, 2, impl.Inode{Id: 3}) }),
		turned("an Inode too few", func(d *impl.Disk) { d.Inodes = d.Inodes[:4] }),
		turned("no Inodes", func(d *impl.Disk) { d.Inodes = nil }),
		{"Inodes alone", impl.Disk{Room: 9, Next: 2, Inodes: []impl.Inode{{Id: 1}}}},
	}
	for _, n := range []int{math.MinInt, math.MaxInt} {
		l = append(l,
			turned("Room far out", func(d *impl.Disk) { d.Room = n }),
			turned("Next far out", func(d *impl.Disk) { d.Next = n }),
			turned("Id far out", func(d *impl.Disk) { d.Inodes[4].Id = n; d.Moves[3].Id = n }),
			turned("Sure far out", func(d *impl.Disk) { d.Inodes[0].Sure = n }),
		)
	}
	return l
}

func badDirs() []badDisk {
	l := []badDisk{
		turned("Dir falls", func(d *impl.Disk) { d.Dir[0], d.Dir[1] = d.Dir[1], d.Dir[0] }),
		{"Dir has a name twice", impl.Disk{Room: 9, Next: 3, Inodes: []impl.Inode{{Id: 1}, {Id: 2}}, Dir: []impl.Link{{Name: "a", Id: 1}, {Name: "a", Id: 2}}}},
		turned("Dir has an Id twice", func(d *impl.Disk) { d.Dir[1].Id = 1 }),
		turned("Dir has an Id twice, once too often", func(d *impl.Disk) { d.Dir = append(d.Dir, impl.Link{Name: "m", Id: 4}) }),
		turned("Dir has an Id of no Inode", func(d *impl.Disk) { d.Dir[1].Id = 3 }),
		turned("Dir has the Id 0", func(d *impl.Disk) { d.Dir[1].Id = 0 }),
		turned("Dir has an Id below 0", func(d *impl.Disk) { d.Dir[1].Id = -2 }),
		turned("Dir has the Id of a MvMake", func(d *impl.Disk) { d.Dir[1].Id = 5 }),
		turned("Dir has the Id Next", func(d *impl.Disk) { d.Dir[1].Id = 8 }),
		turned("Dir lacks a Link that nothing else has", func(d *impl.Disk) { d.Dir = d.Dir[:2]; d.Moves = d.Moves[:5] }),
		{"Dir without Inodes", impl.Disk{Room: 9, Next: 2, Dir: []impl.Link{{Name: "a", Id: 1}}}},
	}
	for _, name := range badNames() {
		l = append(l, badDisk{"Dir has no name", impl.Disk{Room: 9, Next: 2, Inodes: []impl.Inode{{Id: 1}}, Dir: []impl.Link{{Name: name, Id: 1}}}})
	}
	return l
}

func badMoves() []badDisk {
	move := func(name string, at int, change func(m *impl.Move)) badDisk {
		return turned(name, func(d *impl.Disk) { change(&d.Moves[at]) })
	}
	more := func(name string, m impl.Move) badDisk {
		return turned(name, func(d *impl.Disk) { d.Moves = append(d.Moves, m) })
	}
	l := []badDisk{
		move("Kind 0", 2, func(m *impl.Move) { m.Kind = 0 }),
		move("Kind 4", 2, func(m *impl.Move) { m.Kind = 4 }),
		move("Kind -1", 2, func(m *impl.Move) { m.Kind = -1 }),
		move("MvMake of a name that is there", 0, func(m *impl.Move) { m.Name = "log" }),
		move("MvMake of a name that a Move made", 3, func(m *impl.Move) { m.Name = "c" }),
		move("MvMake with To", 0, func(m *impl.Move) { m.To = "d" }),
		move("MvMake with its Name as To", 0, func(m *impl.Move) { m.To = "c" }),
		move("MvMake of no Inode", 0, func(m *impl.Move) { m.Id = 3 }),
		move("MvMake of the Id 0", 0, func(m *impl.Move) { m.Id = 0 }),
		move("MvMake of the Id Next", 0, func(m *impl.Move) { m.Id = 8 }),
		move("MvMake of an Inode of Dir", 3, func(m *impl.Move) { m.Id = 2 }),
		move("MvMake of an Inode of a MvMake ahead", 3, func(m *impl.Move) { m.Id = 5 }),
		move("MvName of a name that is not there", 1, func(m *impl.Move) { m.Name = "d" }),
		move("MvName to itself", 1, func(m *impl.Move) { m.To = "a" }),
		move("MvName with an Id", 1, func(m *impl.Move) { m.Id = 1 }),
		move("MvName with an Id of no Inode", 1, func(m *impl.Move) { m.Id = -1 }),
		move("MvDrop of a name that is not there", 2, func(m *impl.Move) { m.Name = "a" }),
		move("MvDrop with To", 2, func(m *impl.Move) { m.To = "b" }),
		move("MvDrop with an Id", 2, func(m *impl.Move) { m.Id = 2 }),
		more("MvMake of an Inode of Dir, whose name is gone", impl.Move{Kind: impl.MvMake, Name: "a", Id: 1}),
		more("MvMake of an Inode that a MvMake had, whose name is gone", impl.Move{Kind: impl.MvMake, Name: "c", Id: 5}),
		more("MvName from a name that a Move took", impl.Move{Kind: impl.MvName, Name: "log", To: "d"}),
		more("MvDrop of a name that a Move took", impl.Move{Kind: impl.MvDrop, Name: "c"}),
		more("zero Move", impl.Move{}),
		turned("a MvMake too few", func(d *impl.Disk) { d.Moves = slices.Delete(d.Moves, 3, 4) }),
		turned("Moves in another order", func(d *impl.Disk) { d.Moves[2], d.Moves[3] = d.Moves[3], d.Moves[2] }),
		turned("no Moves", func(d *impl.Disk) { d.Moves = nil }),
	}
	for _, name := range badNames() {
		l = append(l,
			badDisk{"MvMake of no name", impl.Disk{Room: 9, Next: 2, Inodes: []impl.Inode{{Id: 1}}, Moves: []impl.Move{{Kind: impl.MvMake, Name: name, Id: 1}}}},
			move("MvName to no name", 1, func(m *impl.Move) { m.To = name }),
			move("MvName of no name", 1, func(m *impl.Move) { m.Name = name }),
			move("MvDrop of no name", 4, func(m *impl.Move) { m.Name = name }),
		)
	}
	return l
}

// withInodes is a right disk but for the number of its Inodes.
func withInodes(many int) impl.Disk {
	d := impl.Disk{Room: 9, Next: many + 1}
	for i := range many {
		d.Inodes = append(d.Inodes, impl.Inode{Id: i + 1})
		d.Dir = append(d.Dir, impl.Link{Name: fmt.Sprintf("n%06d", i), Id: i + 1})
	}
	return d
}

// withMoves is a right disk but for the number of its Moves.
func withMoves(many int) impl.Disk {
	d := impl.Disk{Room: 9, Next: 2, Inodes: []impl.Inode{{Id: 1}}, Dir: []impl.Link{{Name: "a", Id: 1}}}
	for i := range many {
		m := impl.Move{Kind: impl.MvName, Name: "a", To: "b"}
		if i%2 == 1 {
			m.Name, m.To = m.To, m.Name
		}
		d.Moves = append(d.Moves, m)
	}
	return d
}

// badDisks are not right in one way each.
func badDisks() []badDisk {
	return slices.Concat(badNumbersAndInodes(), badDirs(), badMoves(), []badDisk{
		{"MaxInodes + 1", withInodes(impl.MaxInodes + 1)},
		{"far too many Inodes", withInodes(1000)},
		{"MaxMoves + 1", withMoves(impl.MaxMoves + 1)},
		{"far too many Moves", withMoves(1000)},
	})
}

func TestDiskNotRight(t *testing.T) {
	calls := []diskCall{callMake("new"), callMake("b"), callMake("No"), callAdd("b", ""), callAdd("b", "x"), callAdd("none", "x"), callAdd("No", "x"), callSync("b"), callSync("none"), callSync("No"), callRename("b", "c"), callRename("b", "b"), callRename("none", "b"), callRename("b", "No"), callDrop("b"), callDrop("none"), callDrop(""), callSyncDir()}
	for _, b := range badDisks() {
		if slowRight(b.d) {
			t.Fatalf("%s: right by the words: %#v", b.name, b.d)
		}
		if impl.DiskOk(b.d) {
			t.Errorf("%s: DiskOk(%#v)", b.name, b.d)
		}
		if l := impl.List(b.d); len(l) != 0 {
			t.Errorf("%s: List = %q", b.name, l)
		}
		for _, name := range []string{"a", "b", "z", "log", "none", ""} {
			if s, ok := impl.Load(b.d, name); ok || s != "" {
				t.Errorf("%s: Load(%q) = %q, %v", b.name, name, s, ok)
			}
		}
		for _, c := range calls {
			wantCall(t, c, b.d, impl.Disk{}, impl.DkBad)
		}
		for _, keep := range []int{-1, 0, 3, impl.MaxMoves + 1} {
			if x := impl.Crash(b.d, keep, []int{1, 1}); !sameDisk(x, impl.Disk{}) {
				t.Errorf("%s: Crash = %#v", b.name, x)
			}
		}
	}
}

func TestDiskRightEdges(t *testing.T) {
	for _, r := range []badDisk{
		{"rich", richDisk()},
		{"Room 0", impl.Disk{Next: 1}},
		{"Room 0 with an Inode", impl.Disk{Next: 2, Inodes: []impl.Inode{{Id: 1}}, Dir: []impl.Link{{Name: "a", Id: 1}}}},
		{"empty lists", impl.Disk{Next: 1, Inodes: []impl.Inode{}, Dir: []impl.Link{}, Moves: []impl.Move{}}},
		turned("Room MaxRoom", func(d *impl.Disk) { d.Room = impl.MaxRoom }),
		turned("Room as much as the Data", func(d *impl.Disk) { d.Room = 13 }),
		turned("Next one above the last Id", func(d *impl.Disk) { d.Next = 7 }),
		turned("Next MaxId", func(d *impl.Disk) { d.Next = impl.MaxId }),
		turned("Id MaxId - 1", func(d *impl.Disk) {
			d.Next = impl.MaxId
			d.Inodes[4].Id = impl.MaxId - 1
			d.Moves[3].Id = impl.MaxId - 1
		}),
		turned("Sure 0", func(d *impl.Disk) { d.Inodes[0].Sure = 0 }),
		turned("Sure all Data", func(d *impl.Disk) { d.Inodes[0].Sure = 6 }),
		turned("Dir's Ids fall", func(d *impl.Disk) { d.Dir[0].Id = 4; d.Dir[2].Id = 1 }),
		turned("a name that was dropped is named again", func(d *impl.Disk) { d.Moves = append(d.Moves, impl.Move{Kind: impl.MvName, Name: "z", To: "c"}) }),
		{"MaxInodes", withInodes(impl.MaxInodes)},
		{"MaxMoves", withMoves(impl.MaxMoves)},
	} {
		if !slowRight(r.d) || !impl.DiskOk(r.d) {
			t.Errorf("%s: by the words %v, DiskOk %v", r.name, slowRight(r.d), impl.DiskOk(r.d))
		}
		doAll(t, r.d, callSyncDir())
		for keep := -1; keep <= len(r.d.Moves)+1; keep++ {
			wantCrash(t, r.d, keep, []int{1, 2}, slowCrash(r.d, keep, []int{1, 2}))
		}
	}
}

// pick is one of the list.
func pick[T any](r *rand.Rand, l ...T) T {
	return l[r.IntN(len(l))]
}

// someCall is a call with names and data that often meet what the disk has, and its edges.
func someCall(r *rand.Rand) diskCall {
	name := func() string {
		return pick(r, "a", "b", "c", "d", "e", "f", "g", "h", "log", "log.new", "a", "b", "c", "A", "", "thirteenbytes")
	}
	switch r.IntN(16) {
	case 0, 1, 2, 3:
		return callMake(name())
	case 4, 5, 6, 7:
		return callAdd(name(), strings.Repeat(pick(r, "x", "y", "\x00"), r.IntN(7)))
	case 8, 9:
		return callSync(name())
	case 10, 11, 12:
		return callRename(name(), name())
	case 13, 14:
		return callDrop(name())
	}
	return callSyncDir()
}

// wantSafe tells where a name that was safe, and that no Move touches, lost what was synced, or has what was never added.
func wantSafe(t *testing.T, d, crashed impl.Disk) {
	t.Helper()
	for _, l := range d.Dir {
		if slices.ContainsFunc(d.Moves, func(m impl.Move) bool { return m.Name == l.Name || m.To == l.Name }) {
			continue
		}
		at := slices.IndexFunc(d.Inodes, func(n impl.Inode) bool { return n.Id == l.Id })
		s, ok := impl.Load(crashed, l.Name)
		if n := d.Inodes[at]; !ok || !strings.HasPrefix(s, n.Data[:n.Sure]) || !strings.HasPrefix(n.Data, s) {
			t.Fatalf("%q of %#v is %q, %v in %#v", l.Name, d, s, ok, crashed)
		}
	}
}

// Disks led on by many calls, each held against the words, and crashed in many ways.
func TestDiskWalks(t *testing.T) {
	seen := map[int]int{}
	for seed := range uint64(60) {
		r := rand.New(rand.NewPCG(seed, 4))
		d := newDisk(t, pick(r, 0, 5, 20, 60, impl.MaxRoom))
		for range 150 {
			c := someCall(r)
			want, code := c.slow(copyDisk(d))
			d = wantCall(t, c, d, want, code)
			seen[code]++
			var now []string
			for _, l := range slowNow(d) {
				now = append(now, l.Name)
				if s, ok := impl.Load(d, l.Name); !ok || s != d.Inodes[slowFile(d, l.Name)].Data {
					t.Fatalf("Load(%q) of %#v = %q, %v", l.Name, d, s, ok)
				}
			}
			if l := impl.List(d); !slices.Equal(l, now) {
				t.Fatalf("List of %#v = %q", d, l)
			}
			cuts := make([]int, r.IntN(impl.MaxInodes+2))
			for i := range cuts {
				cuts[i] = r.IntN(12) - 2
			}
			for keep := -1; keep <= len(d.Moves)+1; keep++ {
				wantCrash(t, d, keep, cuts, slowCrash(d, keep, cuts))
				wantSafe(t, d, impl.Crash(d, keep, cuts))
			}
			if r.IntN(25) == 0 {
				d = impl.Crash(d, r.IntN(impl.MaxMoves+3)-1, cuts)
			}
		}
	}
	for code := impl.DkOk; code <= impl.DkFull; code++ {
		if seen[code] < 20 {
			t.Errorf("code %d came %d times only", code, seen[code])
		}
	}
}

// someDisk is small and put together by chance, so that it is now right and now just not.
func someDisk(r *rand.Rand) impl.Disk {
	d := impl.Disk{Room: pick(r, 2, 3, 9), Next: pick(r, 3, 4, 4, 4)}
	for id := range 4 {
		if r.IntN(2) == 0 {
			d.Inodes = append(d.Inodes, impl.Inode{Id: pick(r, id, id, id, 1), Data: pick(r, "", "", "x", "yz"), Sure: pick(r, 0, 0, 0, 1)})
		}
	}
	for _, name := range []string{"a", "b", "c"} {
		if r.IntN(3) == 0 {
			d.Dir = append(d.Dir, impl.Link{Name: name, Id: r.IntN(4)})
		}
	}
	for range r.IntN(4) {
		m := impl.Move{Kind: pick(r, impl.MvMake, impl.MvName, impl.MvDrop), Name: pick(r, "a", "b", "c", "d")}
		switch m.Kind {
		case impl.MvMake:
			m.Id = r.IntN(4)
		case impl.MvName:
			m.To = pick(r, "a", "b", "c", "d", "")
		}
		d.Moves = append(d.Moves, m)
	}
	return d
}

func TestDiskOkAgainstTheWords(t *testing.T) {
	r := rand.New(rand.NewPCG(4, 4))
	right := 0
	for range 200000 {
		d := someDisk(r)
		want := slowRight(d)
		if want {
			right++
		}
		if impl.DiskOk(d) != want {
			t.Fatalf("DiskOk(%#v) = %v", d, !want)
		}
	}
	if right < 1000 {
		t.Errorf("only %d were right", right)
	}
}

// withSpare is the disk with room behind each list, and what stands there.
func withSpare(d impl.Disk) impl.Disk {
	d.Inodes = append(slices.Clone(d.Inodes), impl.Inode{Id: 77}, impl.Inode{Id: 78})[:len(d.Inodes)]
	d.Dir = append(slices.Clone(d.Dir), impl.Link{Id: 77}, impl.Link{Id: 78})[:len(d.Dir)]
	d.Moves = append(slices.Clone(d.Moves), impl.Move{Id: 77}, impl.Move{Id: 78})[:len(d.Moves)]
	return d
}

// overwrite writes into all of a disk's lists, and behind them.
func overwrite(d impl.Disk) {
	for i := range d.Inodes[:cap(d.Inodes)] {
		d.Inodes[:cap(d.Inodes)][i] = impl.Inode{Id: 99}
	}
	for i := range d.Dir[:cap(d.Dir)] {
		d.Dir[:cap(d.Dir)][i] = impl.Link{Name: "no", Id: 99}
	}
	for i := range d.Moves[:cap(d.Moves)] {
		d.Moves[:cap(d.Moves)][i] = impl.Move{Kind: 99}
	}
}

func TestDiskAnswersNewMemory(t *testing.T) {
	calls := []diskCall{callMake("new"), callMake("b"), callMake("No"), callAdd("b", ""), callAdd("b", "x"), callAdd("none", ""), callSync("b"), callSync("z"), callRename("b", "c"), callRename("b", "z"), callRename("none", "b"), callDrop("b"), callDrop("none"), callSyncDir()}
	for keep := -1; keep <= 7; keep++ {
		calls = append(calls, diskCall{name: "Crash", do: func(d impl.Disk) (impl.Disk, int) { return impl.Crash(d, keep, []int{1, 2, 3}), 0 }})
	}
	for _, ahead := range []impl.Disk{richDisk(), slowSettled(richDisk(), slowNow(richDisk())), {Room: 1, Next: 1}} {
		for _, c := range calls {
			d := withSpare(ahead)
			first, _ := c.do(d)
			kept := copyDisk(first)
			second, _ := c.do(d)
			overwrite(second)
			whole := impl.Disk{Room: d.Room, Next: d.Next, Inodes: d.Inodes[:len(d.Inodes)+2], Dir: d.Dir[:len(d.Dir)+2], Moves: d.Moves[:len(d.Moves)+2]}
			was := withSpare(ahead)
			if !sameDisk(whole, impl.Disk{Room: was.Room, Next: was.Next, Inodes: was.Inodes[:len(was.Inodes)+2], Dir: was.Dir[:len(was.Dir)+2], Moves: was.Moves[:len(was.Moves)+2]}) {
				t.Fatalf("%s wrote into its argument, or its answer is part of it: %#v", c.name, whole)
			}
			overwrite(d)
			if !sameDisk(first, kept) {
				t.Fatalf("%s: the answer hangs on its argument, or on another answer: %#v", c.name, first)
			}
		}
	}
}
