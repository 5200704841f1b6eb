package tests

import (
	"math"
	"math/rand/v2"
	"slices"
	"strings"
	"testing"

	"loop.example/g00360/impl"
)

// Promise 13: ReadOp, ReadAnswer and ReadCmd take what ShowOp, ShowAnswer and ShowCmd make, and nothing else.

// The parts of a text stand one behind the other; those at the places of the Vars are Vars.

func opParts(o impl.Op) []string {
	return []string{string([]byte{byte(o.Kind)}), slowVar(len(o.Key)), o.Key, slowVar(o.From), slowVar(o.To), o.Data}
}

func answerParts(a impl.Answer) []string {
	return []string{slowVar(a.Code), slowVar(a.Index), slowVar(a.Mark), a.Data}
}

func cmdParts(x impl.Cmd) []string {
	return append([]string{slowVar(x.Client), slowVar(x.Serial)}, opParts(x.Op)...)
}

func slowCmdOk(x impl.Cmd) bool {
	return within(x.Client, 1, 4) && within(x.Serial, 1, 1000000) && slowOpOk(x.Op)
}

// slowParts cuts a text by the letters: k is one byte, v a Var, t a text as long as the Var ahead of it says, r all that is left. Nothing where one lacks.
func slowParts(s, letters string) (numbers []int, texts []string) {
	for i := range len(letters) {
		n, used := 0, len(s)
		switch letters[i] {
		case 'k':
			if s == "" {
				return nil, nil
			}
			n, used = int(s[0]), 1
		case 'v':
			n, used = slowVarAt(s)
			if used == 0 {
				return nil, nil
			}
		case 't':
			used = numbers[len(numbers)-1]
			if used > len(s) {
				return nil, nil
			}
		}
		if letters[i] == 't' || letters[i] == 'r' {
			texts = append(texts, s[:used])
		} else {
			numbers = append(numbers, n)
		}
		s = s[used:]
	}
	return numbers, texts
}

func slowReadOp(s string) (impl.Op, bool) {
	n, texts := slowParts(s, "kvtvvr")
	if len(n) != 4 {
		return impl.Op{}, false
	}
	o := impl.Op{Kind: n[0], Key: texts[0], From: n[2], To: n[3], Data: texts[1]}
	if !slowOpOk(o) {
		return impl.Op{}, false
	}
	return o, true
}

func slowReadAnswer(s string) (impl.Answer, bool) {
	n, texts := slowParts(s, "vvvr")
	if len(n) != 3 {
		return impl.Answer{}, false
	}
	a := impl.Answer{Code: n[0], Index: n[1], Mark: n[2], Data: texts[0]}
	if !slowAnswerOk(a) {
		return impl.Answer{}, false
	}
	return a, true
}

func slowReadCmd(s string) (impl.Cmd, bool) {
	n, texts := slowParts(s, "vvkvtvvr")
	if len(n) != 6 {
		return impl.Cmd{}, false
	}
	x := impl.Cmd{Client: n[0], Serial: n[1], Op: impl.Op{Kind: n[2], Key: texts[0], From: n[4], To: n[5], Data: texts[1]}}
	if !slowCmdOk(x) {
		return impl.Cmd{}, false
	}
	return x, true
}

// A callText is one of the three things that are shown as texts, and what the words say of it.
type callText[T comparable] struct {
	name     string
	show     func(T) string
	read     func(string) (T, bool)
	right    func(T) bool
	parts    func(T) []string
	vars     []int
	slowRead func(string) (T, bool)
	// Can parts be made of it, whatever they are read as?
	shows func(T) bool
}

func opTexts() callText[impl.Op] {
	shows := func(o impl.Op) bool { return within(o.Kind, 0, 255) && o.From >= 0 && o.To >= 0 }
	return callText[impl.Op]{"Op", impl.ShowOp, impl.ReadOp, slowOpOk, opParts, []int{1, 3, 4}, slowReadOp, shows}
}

func answerTexts() callText[impl.Answer] {
	shows := func(a impl.Answer) bool { return a.Code >= 0 && a.Index >= 0 && a.Mark >= 0 }
	return callText[impl.Answer]{"Answer", impl.ShowAnswer, impl.ReadAnswer, slowAnswerOk, answerParts, []int{0, 1, 2}, slowReadAnswer, shows}
}

func cmdTexts() callText[impl.Cmd] {
	shows := func(x impl.Cmd) bool { return x.Client >= 0 && x.Serial >= 0 && opTexts().shows(x.Op) }
	return callText[impl.Cmd]{"Cmd", impl.ShowCmd, impl.ReadCmd, slowCmdOk, cmdParts, []int{0, 1, 3, 5, 6}, slowReadCmd, shows}
}

// raw is how it would be shown, right or not.
func (k callText[T]) raw(v T) string {
	return strings.Join(k.parts(v), "")
}

// wantText wants v shown as this text, and the text read as v.
func (k callText[T]) wantText(t *testing.T, name string, v T, want string) {
	t.Helper()
	if s := k.show(v); s != want {
		t.Fatalf("%s: Show%s(%s) = %s, want %s", name, k.name, brief(v), brief(s), brief(want))
	}
	if got, ok := k.read(want); !ok || got != v {
		t.Fatalf("%s: Read%s(%s) = %s, %v, want %s", name, k.name, brief(want), brief(got), ok, brief(v))
	}
	if said, ok := k.slowRead(want); !ok || said != v || !k.right(v) || k.raw(v) != want {
		t.Fatalf("%s: the words read %s as %s, %v, and show %s as %s", name, brief(want), brief(said), ok, brief(v), brief(k.raw(v)))
	}
}

// wantNone wants a text that nothing is read from.
func (k callText[T]) wantNone(t *testing.T, name, s string) {
	t.Helper()
	var zero T
	if got, ok := k.read(s); ok || got != zero {
		t.Fatalf("%s: Read%s(%s) = %s, %v", name, k.name, brief(s), brief(got), ok)
	}
	if said, ok := k.slowRead(s); ok || said != zero {
		t.Fatalf("%s: the words read %s as %s, %v", name, brief(s), brief(said), ok)
	}
}

// wantValue wants v shown and read back where it is right; else shown as nothing, and what would be its text not read.
func (k callText[T]) wantValue(t *testing.T, name string, v T, right bool) {
	t.Helper()
	if k.right(v) != right {
		t.Fatalf("%s: is %s right? The words say %v", name, brief(v), !right)
	}
	if right {
		k.wantText(t, name, v, k.raw(v))
		return
	}
	if s := k.show(v); s != "" {
		t.Fatalf("%s: Show%s(%s) = %s", name, k.name, brief(v), brief(s))
	}
	if k.shows(v) {
		k.wantNone(t, name, k.raw(v))
	}
}

// wantWords wants the text read as the words say, and what is read shown as the text again.
func (k callText[T]) wantWords(t *testing.T, name, s string) bool {
	t.Helper()
	said, right := k.slowRead(s)
	got, ok := k.read(s)
	if got != said || ok != right {
		t.Fatalf("%s: Read%s(%s) = %s, %v, want %s, %v", name, k.name, brief(s), brief(got), ok, brief(said), right)
	}
	if ok && k.show(got) != s {
		t.Fatalf("%s: Read%s(%s) = %s, that is shown as %s", name, k.name, brief(s), brief(got), brief(k.show(got)))
	}
	return ok
}

// The block of the point 5: 1.
const oneBlock = "\x00\x00\x00\x03\xc0\x4e\xf8\x76\x01\x05\x02"

// The block of the points 10: 1 and 20: -1.
const twoBlock = "\x00\x00\x00\x05\x9c\x0a\x04\x20\x02\x0a\x0a\x02\x03"

const farVar = "\x80\x80\x80\x80\x80\x20"

func TestOpTexts(t *testing.T) {
	for _, c := range []struct {
		o    impl.Op
		want string
	}{
		{routeOp(0, 1), "\x01\x00\x00\x01"},
		{routeOp(50, 250), "\x01\x00\x32\xfa\x01"},
		{routeOp(127, 128), "\x01\x00\x7f\x80\x01"},
		{routeOp(0, farTime), "\x01\x00\x00" + farVar},
		{routeOp(farTime-1, farTime), "\x01\x00\xff\xff\xff\xff\xff\x1f" + farVar},
		{markOp(0), "\x02\x00\x00\x00"},
		{markOp(300), "\x02\x00\xac\x02\x00"},
		{markOp(farTime), "\x02\x00" + farVar + "\x00"},
		{holdOp(0), "\x03\x00\x00\x00"},
		{holdOp(1), "\x03\x00\x01\x00"},
		{holdOp(100000), "\x03\x00\xa0\x8d\x06\x00"},
		{writeOp("a", pointsAt(5, 1)), "\x04\x01a\x00\x00" + oneBlock},
		{writeOp("cpu", pointsAt(10, 1, 20, -1)), "\x04\x03cpu\x00\x00" + twoBlock},
		{writeOp("abcdefgh", pointsAt(5, 1)), "\x04\x08abcdefgh\x00\x00" + oneBlock},
		{readOp("cpu", 1, 300), "\x05\x03cpu\x01\xac\x02"},
		{readOp("z", 0, 1), "\x05\x01z\x00\x01"},
		{readOp("zzzzzzzz", 5, farTime), "\x05\x08zzzzzzzz\x05" + farVar},
		{raiseOp(0), "\x06\x00\x00\x00"},
		{raiseOp(128), "\x06\x00\x80\x01\x00"},
		{raiseOp(farTime), "\x06\x00" + farVar + "\x00"},
		{flushOp(), "\x07\x00\x00\x00"},
	} {
		opTexts().wantText(t, "by hand", c.o, c.want)
	}
}

func TestAnswerTexts(t *testing.T) {
	long := strings.Repeat("d", 900)
	for _, c := range []struct {
		a    impl.Answer
		want string
	}{
		{impl.Answer{}, "\x00\x00\x00"},
		{impl.Answer{Code: impl.AnOk, Index: 5, Mark: 250, Data: "\x02\x00\x03\x01"}, "\x00\x05\xfa\x01\x02\x00\x03\x01"},
		{impl.Answer{Code: impl.AnOk, Index: 127, Mark: 128, Data: oneBlock}, "\x00\x7f\x80\x01" + oneBlock},
		{impl.Answer{Code: impl.AnBad}, "\x01\x00\x00"},
		{impl.Answer{Code: impl.AnBad, Index: 1}, "\x01\x01\x00"},
		{impl.Answer{Code: impl.AnLate, Index: 130, Mark: 7, Data: "zz"}, "\x02\x82\x01\x07zz"},
		{impl.Answer{Code: impl.AnFull, Index: 100000, Mark: 20}, "\x03\xa0\x8d\x06\x14"},
		{impl.Answer{Code: impl.AnNone, Mark: farTime, Data: "\x00\xff"}, "\x04\x00" + farVar + "\x00\xff"},
		{impl.Answer{Code: impl.AnNone, Index: 100000, Mark: farTime, Data: long}, "\x04\xa0\x8d\x06" + farVar + long},
		{impl.Answer{Data: "\x00"}, "\x00\x00\x00\x00"},
		{impl.Answer{Data: "\x80\x80"}, "\x00\x00\x00\x80\x80"},
	} {
		answerTexts().wantText(t, "by hand", c.a, c.want)
	}
}

func TestCmdTexts(t *testing.T) {
	for _, c := range []struct {
		x    impl.Cmd
		want string
	}{
		{impl.Cmd{Client: 1, Serial: 1, Op: flushOp()}, "\x01\x01\x07\x00\x00\x00"},
		{impl.Cmd{Client: 4, Serial: 200, Op: flushOp()}, "\x04\xc8\x01\x07\x00\x00\x00"},
		{impl.Cmd{Client: 2, Serial: 127, Op: routeOp(50, 250)}, "\x02\x7f\x01\x00\x32\xfa\x01"},
		{impl.Cmd{Client: 3, Serial: 128, Op: markOp(300)}, "\x03\x80\x01\x02\x00\xac\x02\x00"},
		{impl.Cmd{Client: 1, Serial: 1000000, Op: holdOp(100000)}, "\x01\xc0\x84\x3d\x03\x00\xa0\x8d\x06\x00"},
		{impl.Cmd{Client: 4, Serial: 1000000, Op: writeOp("cpu", pointsAt(10, 1, 20, -1))}, "\x04\xc0\x84\x3d\x04\x03cpu\x00\x00" + twoBlock},
		{impl.Cmd{Client: 2, Serial: 2, Op: readOp("cpu", 1, 300)}, "\x02\x02\x05\x03cpu\x01\xac\x02"},
		{impl.Cmd{Client: 3, Serial: 3, Op: raiseOp(0)}, "\x03\x03\x06\x00\x00\x00"},
	} {
		cmdTexts().wantText(t, "by hand", c.x, c.want)
	}
}

func allOpCases() []opCase {
	l := slices.Concat(spanCases(impl.OmRoute, ""), spanCases(impl.OsRead, "cpu"), fromCases(impl.OmMark, farTime), fromCases(impl.OmHold, 100000), fromCases(impl.OsRaise, farTime),
		keyCases(writeOp("", pointsAt(5, 1))), keyCases(readOp("", 5, 500)), writeCases(), unnamedCases())
	for kind := range 256 {
		l = append(l, opCase{"a kind alone", impl.Op{Kind: kind}, slices.Contains([]int{2, 3, 6, 7}, kind)})
	}
	for _, o := range append(metaOps(), shardOps()...) {
		l = append(l, opCase{"right", o, true})
	}
	for _, o := range wrongOps() {
		l = append(l, opCase{"not right", o, false})
	}
	return l
}

func TestOpTextsAtTheEdges(t *testing.T) {
	for _, c := range allOpCases() {
		opTexts().wantValue(t, c.name, c.o, c.want)
	}
}

// All kinds, with all fields at their edges held against each other.
func TestOpTextsOfAllFields(t *testing.T) {
	right := 0
	numbers := []int{math.MinInt, -1, 0, 1, 100000, 100001, farTime, farTime + 1, impl.MaxVar, impl.MaxVar + 1, math.MaxInt}
	for kind := -1; kind <= 9; kind++ {
		for _, key := range []string{"", "a", "zzzzzzzz", "zzzzzzzzz", "A"} {
			for _, data := range []string{"", "d", oneBlock, oneBlock + "d"} {
				for _, from := range numbers {
					for _, to := range numbers {
						o := impl.Op{Kind: kind, Key: key, From: from, To: to, Data: data}
						opTexts().wantValue(t, "all fields", o, slowOpOk(o))
						if slowOpOk(o) {
							right++
						}
					}
				}
			}
		}
	}
	// Of the five numbers from 0 to MaxTime each two are a span.
	if want := 10 + 5 + 3 + 2 + 2*10 + 5 + 1; right != want {
		t.Errorf("%d are right, want %d", right, want)
	}
}

// An answerCase is an Answer and whether it is AnswerOk.
type answerCase struct {
	name string
	a    impl.Answer
	want bool
}

func answerCases() []answerCase {
	long := strings.Repeat("d", 900)
	l := []answerCase{
		{"Code MaxVar", impl.Answer{Code: impl.MaxVar}, false}, {"the least Code", impl.Answer{Code: math.MinInt}, false}, {"the greatest Code", impl.Answer{Code: math.MaxInt}, false},
		{"Index MaxIndex - 1", impl.Answer{Index: 99999}, true}, {"the least Index", impl.Answer{Index: math.MinInt}, false}, {"the greatest Index", impl.Answer{Index: math.MaxInt}, false},
		{"Mark MaxTime - 1", impl.Answer{Mark: farTime - 1}, true}, {"the least Mark", impl.Answer{Mark: math.MinInt}, false}, {"the greatest Mark", impl.Answer{Mark: math.MaxInt}, false},
		{"MaxData - 1 bytes", impl.Answer{Data: long[1:]}, true}, {"MaxData bytes", impl.Answer{Data: long}, true}, {"one more", impl.Answer{Data: long + "d"}, false}, {"far more", impl.Answer{Data: strings.Repeat(long, 1000)}, false},
		{"MaxData bytes and all at their most", impl.Answer{Code: 4, Index: 100000, Mark: farTime, Data: long}, true},
	}
	for _, code := range []int{-1, 0, 1, 2, 3, 4, 5} {
		for _, index := range []int{-1, 0, 1, 100000, 100001} {
			for _, mark := range []int{-1, 0, 1, farTime, farTime + 1} {
				for _, data := range []string{"", "\x00", allBytes(), long, long + "\x00"} {
					a := impl.Answer{Code: code, Index: index, Mark: mark, Data: data}
					l = append(l, answerCase{"all fields", a, slowAnswerOk(a)})
				}
			}
		}
	}
	return l
}

func TestAnswerTextsAtTheEdges(t *testing.T) {
	right := 0
	for _, c := range answerCases() {
		answerTexts().wantValue(t, c.name, c.a, c.want)
		if c.want {
			right++
		}
	}
	for _, a := range wrongAnswers() {
		answerTexts().wantValue(t, "not right", a, false)
	}
	if want := 5 + 5*3*3*4; right != want {
		t.Errorf("%d are right, want %d", right, want)
	}
}

// What is out of range, by itself and several at once.
func TestCmdTextsAtTheEdges(t *testing.T) {
	right := 0
	ops := slices.Concat([]impl.Op{{}, flushOp(), writeOp("cpu", pointsAt(10, 1, 20, -1)), writeOp("", pointsAt(5, 1)), {Kind: 8}, {Kind: impl.OsFlush, To: 1}}, metaOps(), wrongOps())
	for _, client := range []int{math.MinInt, -1, 0, 1, 2, 3, 4, 5, 257, impl.MaxVar, math.MaxInt} {
		for _, serial := range []int{math.MinInt, -1, 0, 1, 2, 128, 999999, 1000000, 1000001, impl.MaxVar, math.MaxInt} {
			for _, o := range ops {
				want := within(client, 1, 4) && within(serial, 1, 1000000) && slowOpOk(o)
				cmdTexts().wantValue(t, "all fields", impl.Cmd{Client: client, Serial: serial, Op: o}, want)
				if want {
					right++
				}
			}
		}
	}
	if want := 4 * 5 * (2 + len(metaOps())); right != want {
		t.Errorf("%d are right, want %d", right, want)
	}
	for _, c := range allOpCases() {
		cmdTexts().wantValue(t, c.name, impl.Cmd{Client: 2, Serial: 300, Op: c.o}, c.want)
		cmdTexts().wantValue(t, c.name+", client 0", impl.Cmd{Serial: 300, Op: c.o}, false)
		cmdTexts().wantValue(t, c.name+", serial 0", impl.Cmd{Client: 2, Op: c.o}, false)
	}
}

// The samples are short, with Vars of several bytes, and of each kind and code.

func sampleOps() []impl.Op {
	return []impl.Op{routeOp(0, 1), routeOp(127, 128), routeOp(300, farTime), markOp(0), markOp(farTime), holdOp(5), holdOp(100000), writeOp("a", pointsAt(5, 1)), writeOp("abcdefgh", pointsAt(10, 1, 20, -1, farTime, farTime)),
		readOp("z", 0, 1), readOp("cpu", 1, 300), readOp("zzzzzzzz", farTime-1, farTime), raiseOp(0), raiseOp(128), flushOp()}
}

func sampleAnswers() []impl.Answer {
	return []impl.Answer{{}, {Code: 1, Index: 1}, {Code: 2, Index: 130, Mark: 7, Data: "zz"}, {Code: 3, Index: 100000, Mark: 20}, {Code: 4, Index: 127, Mark: farTime, Data: "\x00\xff\x80"}, {Index: 99999, Mark: 300, Data: oneBlock}}
}

func sampleCmds() []impl.Cmd {
	var l []impl.Cmd
	for i, o := range sampleOps() {
		l = append(l, impl.Cmd{Client: 1 + i%4, Serial: []int{1, 127, 128, 20000, 1000000}[i%5], Op: o})
	}
	return l
}

// wantNearly turns, takes away and puts in each byte of the text; the text twice and back to front, too.
func (k callText[T]) wantNearly(t *testing.T, s string) {
	t.Helper()
	for at := range len(s) + 1 {
		k.wantWords(t, "cut off", s[:at])
		k.wantWords(t, "the end alone", s[at:])
		k.wantWords(t, "turned about", s[at:]+s[:at])
		for b := range 256 {
			c := string([]byte{byte(b)})
			k.wantWords(t, "a byte more", s[:at]+c+s[at:])
			if at < len(s) {
				k.wantWords(t, "a byte turned", s[:at]+c+s[at+1:])
			}
		}
		if at < len(s) {
			k.wantWords(t, "a byte less", s[:at]+s[at+1:])
			k.wantWords(t, "a byte twice", s[:at+1]+s[at:])
		}
	}
	k.wantWords(t, "twice", s+s)
}

// longer is the Var with a byte more than it needs, which adds nothing.
func longer(v string) string {
	return withByte(v, len(v)-1, v[len(v)-1]+128) + "\x00"
}

// strangeVars are no Vars, or numbers beyond all that a text may tell.
func strangeVars() map[string]string {
	return map[string]string{
		"no byte": "", "without an end": "\x80", "seven without an end": strings.Repeat("\x80", 7), "all without an end": strings.Repeat("\xff", 20), "0 in two bytes": "\x80\x00", "0 in seven bytes": "\x80\x80\x80\x80\x80\x80\x00",
		"MaxVar": slowVar(impl.MaxVar), "MaxVar and 1": slowVar(impl.MaxVar + 1), "2^62": slowVar(1 << 62), "the greatest int": slowVar(math.MaxInt), "2^63": strings.Repeat("\x80", 9) + "\x01", "2^64 less 1": strings.Repeat("\xff", 9) + "\x01",
		"2^64": strings.Repeat("\x80", 9) + "\x02", "2^64 and 3": "\x83" + strings.Repeat("\x80", 8) + "\x02", "2^70": strings.Repeat("\x80", 10) + "\x01", "2^64 in ten bytes and one": strings.Repeat("\x80", 10) + "\x00", "2^100": strings.Repeat("\x80", 14) + "\x04",
	}
}

// wantVars puts Vars that are too long, or none, in the place of each Var.
func (k callText[T]) wantVars(t *testing.T, v T) {
	t.Helper()
	for _, at := range k.vars {
		with := func(part string) string {
			l := k.parts(v)
			l[at] = part
			return strings.Join(l, "")
		}
		part := k.parts(v)[at]
		for range 9 {
			part = longer(part)
			k.wantNone(t, "a Var longer than it must be", with(part))
		}
		for name, part := range strangeVars() {
			k.wantWords(t, name, with(part))
			if len(part) > 1 {
				k.wantNone(t, name, with(part))
			}
		}
	}
}

// refusals takes away from the text, and puts to it, what no op and no call can lack or have.
func (k callText[T]) refusals(t *testing.T, s string) {
	t.Helper()
	for at := range len(s) {
		k.wantNone(t, "a beginning", s[:at])
	}
	for b := range 256 {
		k.wantNone(t, "a byte behind it", s+string([]byte{byte(b)}))
	}
	k.wantNone(t, "twice", s+s)
	k.wantNone(t, "far more behind it", s+strings.Repeat("\x00", 100000))
}

func TestOpTextsThatAreNearlyRight(t *testing.T) {
	for _, o := range sampleOps() {
		s := impl.ShowOp(o)
		opTexts().wantNearly(t, s)
		opTexts().wantVars(t, o)
		opTexts().refusals(t, s)
		for kind := range 256 {
			if !within(kind, 1, 7) {
				opTexts().wantNone(t, "a kind out of range", string([]byte{byte(kind)})+s[1:])
			}
		}
		for b := range 256 {
			if !within(b, 1, 7) {
				opTexts().wantNone(t, "a byte ahead of it", string([]byte{byte(b)})+s)
			}
		}
	}
}

func TestAnswerTextsThatAreNearlyRight(t *testing.T) {
	for _, a := range sampleAnswers() {
		s := impl.ShowAnswer(a)
		answerTexts().wantNearly(t, s)
		answerTexts().wantVars(t, a)
		// What is cut off in Data, or stands behind them, is an answer with these Data.
		head := len(s) - len(a.Data)
		for at := range head {
			answerTexts().wantNone(t, "a beginning", s[:at])
		}
		for many := range len(a.Data) {
			cut := a
			cut.Data = a.Data[:many]
			answerTexts().wantText(t, "Data cut off", cut, s[:head+many])
		}
		for b := range 256 {
			more := a
			more.Data += string([]byte{byte(b)})
			answerTexts().wantText(t, "a byte behind it", more, s+string([]byte{byte(b)}))
		}
		answerTexts().wantNone(t, "far more behind it", s+strings.Repeat("\x00", 100000))
		for code := 5; code < 128; code++ {
			answerTexts().wantNone(t, "a code out of range", string([]byte{byte(code)})+s[1:])
		}
	}
}

func TestCmdTextsThatAreNearlyRight(t *testing.T) {
	for _, x := range sampleCmds() {
		s := impl.ShowCmd(x)
		cmdTexts().wantNearly(t, s)
		cmdTexts().wantVars(t, x)
		cmdTexts().refusals(t, s)
		cmdTexts().wantNone(t, "the op alone", impl.ShowOp(x.Op))
		cmdTexts().wantNone(t, "no client", slowVar(x.Serial)+impl.ShowOp(x.Op))
		cmdTexts().wantNone(t, "no op", slowVar(x.Client)+slowVar(x.Serial))
		opTexts().wantNone(t, "a call", s)
	}
}

// Keys whose length is told wrong.
func TestKeyLengths(t *testing.T) {
	for _, o := range []impl.Op{readOp("cpu", 1, 300), readOp("abcdefgh", 0, farTime), writeOp("cpu", pointsAt(10, 1, 20, -1)), {Kind: impl.OsRead, From: 5, To: 6}, routeOp(5, 6), flushOp()} {
		l := opParts(o)
		behind := l[2] + l[3] + l[4] + l[5]
		for many := range 40 {
			s := l[0] + slowVar(many) + behind
			opTexts().wantWords(t, "a length", s)
			cmdTexts().wantWords(t, "a length", "\x02\x05"+s)
			if many != len(o.Key) {
				opTexts().wantNone(t, "another length", s)
			}
		}
		left := len(behind)
		for _, many := range []int{left - 2, left - 1, left, left + 1, left + 2, 127, 128, 1 << 20, 1 << 31, 1 << 32, 1<<32 + len(o.Key), 1<<48 + len(o.Key), impl.MaxVar - 1, impl.MaxVar, impl.MaxVar + 1, 1 << 62, math.MaxInt} {
			s := l[0] + slowVar(many) + behind
			if many == len(o.Key) {
				continue
			}
			opTexts().wantNone(t, "a length near or past the end", s)
			cmdTexts().wantNone(t, "a length near or past the end", "\x02\x05"+s)
		}
	}
	for _, s := range []string{"\x05\x04cpu\x01\xac\x02", "\x05\x02cpu\x01\xac\x02", "\x05\x03cpu", "\x05\x03cp", "\x05\x04cpu", "\x05\x00cpu\x01\xac\x02", "\x05\x80", "\x05\xff\xff\xff\xff\xff\xff\x7fcpu\x01\xac\x02", "\x05\xff\xff\xff\xff\xff\xff\xff\xff\x7fcpu\x01\xac\x02",
		"\x05\xff\xff\xff\xff\xff\xff\xff\xff\xff\x01cpu\x01\xac\x02", "\x05\x83\x80\x80\x80\x80\x80\x80\x80\x80\x02cpu\x01\xac\x02", "\x05\x83\x00cpu\x01\xac\x02", "\x05\x09abcdefghi\x01\xac\x02", "\x05\x03cPu\x01\xac\x02", "\x05\x03cp\x00\x01\xac\x02"} {
		opTexts().wantNone(t, "by hand", s)
		cmdTexts().wantNone(t, "by hand", "\x01\x01"+s)
	}
}

func TestTextsThatAreNone(t *testing.T) {
	long := strings.Repeat("d", 901)
	for _, s := range []string{"", "\x01", "\x07", "\x07\x00", "\x07\x00\x00", "\x00\x00\x00\x00", "\x08\x00\x00\x00", "\x87\x00\x00\x00", "\x07\x80\x00\x00\x00", "\x07\x00\x80\x00\x00", "\x07\x00\x00\x80\x00",
		"\x07\x00\x00\x01", "\x07\x00\x01\x00", "\x07\x01a\x00\x00", "\x07\x00\x00\x00\x00", "\x07\x00\x00\x00" + oneBlock, "\x02\x00\x05\x06", "\x02\x01a\x05\x00", "\x02\x00\x05\x00d", "\x02\x00" + slowVar(farTime+1) + "\x00",
		"\x03\x00\xa1\x8d\x06\x00", "\x06\x00" + slowVar(farTime+1) + "\x00", "\x01\x00\x05\x05", "\x01\x00\x05\x04", "\x01\x00\x05" + slowVar(farTime+1), "\x01\x01a\x05\x06", "\x01\x00\x05\x06" + oneBlock,
		"\x04\x01a\x00\x00", "\x04\x01a\x00\x00data", "\x04\x01a\x01\x00" + oneBlock, "\x04\x01a\x00\x01" + oneBlock, "\x04\x00\x00\x00" + oneBlock, "\x04\x01A\x00\x00" + oneBlock, "\x04\x01a\x00\x00" + oneBlock[:10], "\x04\x01a\x00\x00" + oneBlock + oneBlock,
		"\x04\x01a\x00\x00" + slowFrame("\x02\x05\x02"), "\x04\x01a\x00\x00" + slowFrame("\x00"), "\x04\x01a\x00\x00" + rawBlock(61, pointsEvery(0, 1, 61, 1)), "\x05\x01a\x00\x01d", "\x05\x01a\x00\x01" + oneBlock, "\x05\x01a\x01\x01", "\x05\x00\x00\x01"} {
		opTexts().wantNone(t, "by hand", s)
		cmdTexts().wantNone(t, "by hand", "\x01\x01"+s)
	}
	for _, s := range []string{"", "\x00", "\x00\x00", "\x05\x00\x00", "\x80\x00\x00\x00", "\x00\x80\x00\x00", "\x00\x00\x80\x00", "\x81\x00\x00\x00", "\x00\xa1\x8d\x06\x00", "\x00\x00" + slowVar(farTime+1), "\x00\x00\x80", "\x00\x00\x00" + long, "\x04\xa0\x8d\x06" + farVar + long, "\x80\x80\x80\x80\x80\x80\x80\x80\x80\x02\x00\x00"} {
		answerTexts().wantNone(t, "by hand", s)
	}
	flush := "\x07\x00\x00\x00"
	for _, s := range []string{"", "\x01", "\x01\x01", flush, "\x01" + flush, "\x00\x01" + flush, "\x05\x01" + flush, "\x01\x00" + flush, "\x01\xc1\x84\x3d" + flush, "\x81\x00\x01" + flush, "\x01\x81\x00" + flush, "\x00\x00" + flush, "\x05\xc1\x84\x3d" + flush,
		"\x05\x01\x08\x00\x00\x00", "\x00\x00\x00\x00\x00\x00", "\x01\x01\x08\x00\x00\x00", "\x01\x01\x00\x00\x00\x00", "\x01\x01" + flush + "\x00", "\x81\x80\x80\x80\x80\x80\x80\x80\x80\x02\x01" + flush, "\x01\x81\x80\x80\x80\x80\x80\x80\x80\x80\x02" + flush, slowVar(math.MaxInt) + "\x01" + flush} {
		cmdTexts().wantNone(t, "by hand", s)
	}
}

// All short texts over bytes that are kinds, lengths, letters of keys and beginnings of Vars.
func TestShortCallTexts(t *testing.T) {
	ops, answers, cmds := 0, 0, 0
	for _, s := range textsOf("\x00\x01\x02\x05\x07a\x80\xff", 6) {
		if opTexts().wantWords(t, "short", s) {
			ops++
		}
		if answerTexts().wantWords(t, "short", s) {
			answers++
		}
		if cmdTexts().wantWords(t, "short", s) {
			cmds++
		}
	}
	for _, s := range textsOf("\x01\x03\x04\x06\x07\x00a", 6) {
		cmdTexts().wantWords(t, "short", "\x04"+s)
	}
	if ops < 100 || answers < 10000 || cmds < 10 {
		t.Errorf("%d ops, %d answers, %d calls", ops, answers, cmds)
	}
}

// All numbers about the edges, told by texts.
func TestNumbersOfCallTexts(t *testing.T) {
	near := []int{0, 1, 2, 126, 127, 128, 129, 255, 256, 16383, 16384, 99999, 100000, 100001, 999999, 1000000, 1000001, farTime - 1, farTime, farTime + 1, 1 << 42, 1 << 47, impl.MaxVar}
	for _, a := range near {
		for kind := range 9 {
			for _, b := range near {
				head := string([]byte{byte(kind)})
				for _, s := range []string{head + "\x00" + vars(a, b), head + "\x01a" + vars(a, b), head + "\x01a" + vars(a, b) + oneBlock} {
					opTexts().wantWords(t, "numbers", s)
				}
				answerTexts().wantWords(t, "numbers", vars(kind, a, b)+"data")
				cmdTexts().wantWords(t, "numbers", vars(a, b)+"\x07\x00\x00\x00")
			}
		}
	}
}

// someOp is an op by chance, now and then with a field turned: right or not.
func someOp(r *rand.Rand) impl.Op {
	floor := pick(r, 0, r.IntN(1000), r.IntN(farTime))
	o := pick(r, someShardOp(r, floor), someShardOp(r, floor), someMetaOp(r, metaState(r.IntN(300), floor)), markOp(floor), raiseOp(floor), flushOp())
	number := func() int {
		return pick(r, -1, 0, 1, 100000, 100001, farTime, farTime+1, impl.MaxVar, r.IntN(1000), r.IntN(farTime), math.MaxInt, math.MinInt)
	}
	for range pick(r, 0, 0, 1, 2) {
		switch r.IntN(5) {
		case 0:
			o.Kind = pick(r, r.IntN(9), r.IntN(256), -1)
		case 1:
			o.Key = pick(r, "", "a", "abcdefgh", "abcdefghi", "A", "a\x00", someKey(r))
		case 2:
			o.From = number()
		case 3:
			o.To = number()
		case 4:
			o.Data = pick(r, "", "d", oneBlock, twoBlock, someText(r, o.Data), someText(r, oneBlock), slowShowBlock(somePuts(r, floor)))
		}
	}
	return o
}

func someAnswer(r *rand.Rand) impl.Answer {
	a := impl.Answer{Code: r.IntN(5), Index: pick(r, 0, 100000, r.IntN(100001)), Mark: pick(r, 0, farTime, r.IntN(1000), r.IntN(farTime)), Data: pick(r, "", oneBlock, allBytes(), strings.Repeat("d", r.IntN(901)), someText(r, twoBlock))}
	for range pick(r, 0, 0, 1, 2) {
		switch r.IntN(4) {
		case 0:
			a.Code = pick(r, -1, 0, 4, 5, 128, math.MaxInt, math.MinInt)
		case 1:
			a.Index = pick(r, -1, 0, 1, 100000, 100001, farTime, math.MaxInt, math.MinInt)
		case 2:
			a.Mark = pick(r, -1, 0, 1, farTime, farTime+1, impl.MaxVar, math.MaxInt, math.MinInt)
		case 3:
			a.Data = strings.Repeat(pick(r, "d", "\x00", "\xff"), pick(r, 0, 1, 899, 900, 901, 2000))
		}
	}
	return a
}

func someCmd(r *rand.Rand) impl.Cmd {
	x := impl.Cmd{Client: 1 + r.IntN(4), Serial: pick(r, 1, 127, 128, 1000000, 1+r.IntN(1000000)), Op: someOp(r)}
	switch r.IntN(10) {
	case 0:
		x.Client = pick(r, -1, 0, 5, 128, 257, math.MaxInt, math.MinInt)
	case 1:
		x.Serial = pick(r, -1, 0, 1000001, farTime, math.MaxInt, math.MinInt)
	}
	return x
}

// byChance holds values by chance, their texts, and these texts turned, against the words.
func (k callText[T]) byChance(t *testing.T, r *rand.Rand, many int, some func(r *rand.Rand) T) {
	t.Helper()
	right, not, read, unread := 0, 0, 0, 0
	for range many {
		v := some(r)
		k.wantValue(t, "by chance", v, k.right(v))
		if k.right(v) {
			right++
		} else {
			not++
		}
		if !k.shows(v) {
			continue
		}
		s := someText(r, k.raw(v))
		if r.IntN(10) == 0 {
			l := k.parts(v)
			at := k.vars[r.IntN(len(k.vars))]
			l[at] = pick(r, longer(l[at]), slowVar(r.IntN(1000)), slowVar(r.IntN(impl.MaxVar)), "")
			s = strings.Join(l, "")
		}
		if k.wantWords(t, "by chance", s) {
			read++
		} else {
			unread++
		}
	}
	if min(right, not, read, unread) < many/10 {
		t.Errorf("%s: %d right, %d not; %d read, %d not", k.name, right, not, read, unread)
	}
}

func TestCallTextsByChance(t *testing.T) {
	opTexts().byChance(t, rand.New(rand.NewPCG(13, 1)), 40000, someOp)
	answerTexts().byChance(t, rand.New(rand.NewPCG(13, 2)), 20000, someAnswer)
	cmdTexts().byChance(t, rand.New(rand.NewPCG(13, 3)), 40000, someCmd)
}

// Bytes by chance, mostly small, are each read as at most one thing.
func TestAnyBytesByChance(t *testing.T) {
	r := rand.New(rand.NewPCG(13, 4))
	read := 0
	for range 200000 {
		text := make([]byte, r.IntN(12))
		for i := range text {
			text[i] = byte(pick(r, 0, r.IntN(9), 'a'+r.IntN(26), r.IntN(128), r.IntN(256)))
		}
		s := string(text)
		if opTexts().wantWords(t, "any bytes", s) {
			read++
		}
		answerTexts().wantWords(t, "any bytes", s)
		cmdTexts().wantWords(t, "any bytes", s)
	}
	if read < 100 {
		t.Errorf("%d ops were read", read)
	}
}

// No two of them are shown as one text.
func TestCallTextsDiffer(t *testing.T) {
	ops, answers, cmds := map[string]impl.Op{}, map[string]impl.Answer{}, map[string]impl.Cmd{}
	r := rand.New(rand.NewPCG(13, 5))
	for range 20000 {
		o, a, x := someOp(r), someAnswer(r), someCmd(r)
		if s := impl.ShowOp(o); s != "" {
			if was, there := ops[s]; there && was != o {
				t.Fatalf("%s and %s are both shown as %s", brief(was), brief(o), brief(s))
			}
			ops[s] = o
		}
		if s := impl.ShowAnswer(a); s != "" {
			if was, there := answers[s]; there && was != a {
				t.Fatalf("%s and %s are both shown as %s", brief(was), brief(a), brief(s))
			}
			answers[s] = a
		}
		if s := impl.ShowCmd(x); s != "" {
			if was, there := cmds[s]; there && was != x {
				t.Fatalf("%s and %s are both shown as %s", brief(was), brief(x), brief(s))
			}
			cmds[s] = x
		}
	}
}

// A text that is refused leaves nothing behind for the next one.
func TestCallTextsOneBehindTheOther(t *testing.T) {
	for _, x := range sampleCmds() {
		s := impl.ShowCmd(x)
		for at := range len(s) {
			cmdTexts().wantNone(t, "a beginning", s[:at])
			cmdTexts().wantText(t, "behind one that was refused", x, s)
			opTexts().wantText(t, "behind one that was refused", x.Op, impl.ShowOp(x.Op))
		}
	}
}

// What a call comes to is small enough for an entry of a log.
func TestCmdTextsFitAnEntry(t *testing.T) {
	var points []impl.Point
	for i := range 60 {
		points = append(points, impl.Point{T: i * i * (farTime / 3600), V: farTime * (1 - 2*(i%2))})
	}
	x := impl.Cmd{Client: 4, Serial: 1000000, Op: writeOp("zzzzzzzz", points)}
	s := impl.ShowCmd(x)
	cmdTexts().wantText(t, "the longest", x, cmdTexts().raw(x))
	if len(s) < 700 || len(s) > impl.MaxData {
		t.Errorf("%d bytes", len(s))
	}
}

func TestCallTextsAreNewMemory(t *testing.T) {
	for _, x := range sampleCmds() {
		x.Op.Key, x.Op.Data = strings.Clone(x.Op.Key), strings.Clone(x.Op.Data)
		op, cmd := impl.ShowOp(x.Op), impl.ShowCmd(x)
		wantNewTexts(t, "ShowOp and ShowCmd", []string{op, cmd}, []string{x.Op.Key, x.Op.Data, impl.ShowOp(x.Op), impl.ShowCmd(x)})
		wantNewTexts(t, "ShowOp", []string{op}, []string{cmd})
		o, _ := impl.ReadOp(op)
		o2, _ := impl.ReadOp(op)
		wantNewTexts(t, "ReadOp", []string{o.Key, o.Data}, []string{op, o2.Key, o2.Data, x.Op.Key, x.Op.Data})
		wantNewTexts(t, "ReadOp", []string{o.Key}, []string{o.Data})
		y, _ := impl.ReadCmd(cmd)
		y2, _ := impl.ReadCmd(cmd)
		wantNewTexts(t, "ReadCmd", []string{y.Op.Key, y.Op.Data}, []string{cmd, y2.Op.Key, y2.Op.Data, x.Op.Key, x.Op.Data})
		wantNewTexts(t, "ReadCmd", []string{y.Op.Key}, []string{y.Op.Data})
	}
	for _, a := range sampleAnswers() {
		a.Data = strings.Clone(a.Data)
		s := impl.ShowAnswer(a)
		wantNewTexts(t, "ShowAnswer", []string{s}, []string{a.Data, impl.ShowAnswer(a)})
		b, _ := impl.ReadAnswer(s)
		b2, _ := impl.ReadAnswer(s)
		wantNewTexts(t, "ReadAnswer", []string{b.Data}, []string{s, b2.Data, a.Data})
	}
}

func TestCallTextsAnswerAtEveryArgument(t *testing.T) {
	long := strings.Repeat("a", 1000000)
	for _, n := range []int{math.MinInt, -1, math.MaxInt} {
		for kind := -1; kind <= 8; kind++ {
			o := impl.Op{Kind: kind, Key: long, From: n, To: n, Data: long}
			opTexts().wantValue(t, "far too much", o, false)
			cmdTexts().wantValue(t, "far too much", impl.Cmd{Client: n, Serial: n, Op: o}, false)
			cmdTexts().wantValue(t, "far too much", impl.Cmd{Client: 1, Serial: 1, Op: o}, false)
		}
		answerTexts().wantValue(t, "far too much", impl.Answer{Code: n, Index: n, Mark: n, Data: long}, false)
	}
	for _, head := range []string{"", "\x05", "\x05\xc0\x84\x3d", "\x01\x00", "\x04\x01a\x00\x00", "\x04\x01a\x00\x00" + oneBlock, "\x00\x00\x00", "\x01\x01\x04\x01a\x00\x00", "\x01\x01\x05\xc0\x84\x3d"} {
		for _, c := range []string{"\x00", "\x01", "\x7f", "\x80", "\xff", "a"} {
			s := head + strings.Repeat(c, 1000000)
			opTexts().wantNone(t, "far too long", s)
			answerTexts().wantNone(t, "far too long", s)
			cmdTexts().wantNone(t, "far too long", s)
		}
	}
}
