package tests

import (
	"slices"
	"strings"
	"testing"

	"loop.example/g00360/impl"
)

// Promise 3: frames are read as their bodies, cut off anywhere as those that are whole; one byte changed behind the first four is FrBad.

// slowFrame puts a frame together from the document's words, the bytes shifted out by hand.
func slowFrame(body string) string {
	length := fourBytes(len(body))
	return length + fourBytes(slowCrc(length+body)) + body
}

func fourBytes(n int) string {
	return string([]byte{byte(n >> 24), byte(n >> 16), byte(n >> 8), byte(n)})
}

// someBodies are right bodies of many lengths, the shortest and the longest among them.
func someBodies() []string {
	l := []string{"a", "\x00", "\xff", "ab", "tide", "\x00\x00\x00\x01", "caf\u00e9", "\xc3\x28", allBytes(), impl.Frame("in it"), impl.Frame("in") + impl.Frame("it")}
	for _, many := range []int{3, 127, 128, 255, 256, 257, 1000, impl.MaxBody - 1, impl.MaxBody} {
		l = append(l, rising(many, false), strings.Repeat("\x00", many), strings.Repeat("\xff", many))
	}
	return l
}

// wantUnframe tells where Unframe answers otherwise.
func wantUnframe(t *testing.T, name, s, body string, used, code int) {
	t.Helper()
	if b, n, c := impl.Unframe(s); b != body || n != used || c != code {
		t.Fatalf("%s: Unframe of %d bytes = %d bytes (same: %v), %d, %d; want %d bytes, %d, %d", name, len(s), len(b), b == body, n, c, len(body), used, code)
	}
}

// wantFrames tells where Frames answers otherwise.
func wantFrames(t *testing.T, name, s string, bodies []string, used int) {
	t.Helper()
	if l, n := impl.Frames(s); !slices.Equal(l, bodies) || n != used {
		t.Fatalf("%s: Frames of %d bytes = %d bodies (same: %v), %d; want %d bodies, %d", name, len(s), len(l), slices.Equal(l, bodies), n, len(bodies), used)
	}
}

func TestFrameConstants(t *testing.T) {
	if impl.MaxBody != 2000 || impl.FrOk != 0 || impl.FrShort != 1 || impl.FrBad != 2 {
		t.Error(impl.MaxBody, impl.FrOk, impl.FrShort, impl.FrBad)
	}
}

func TestFrameBytes(t *testing.T) {
	cases := []struct {
		name, body, want string
	}{
		{"no byte", "", ""},
		{"MaxBody + 1", strings.Repeat("a", impl.MaxBody+1), ""},
		{"far too long", strings.Repeat("a", 70000), ""},
		{"one byte", "a", "\x00\x00\x00\x01" + fourBytes(slowCrc("\x00\x00\x00\x01a")) + "a"},
		{"two bytes", "ab", "\x00\x00\x00\x02" + fourBytes(slowCrc("\x00\x00\x00\x02ab")) + "ab"},
	}
	for _, c := range cases {
		if got := impl.Frame(c.body); got != c.want {
			t.Errorf("%s: Frame = %q, want %q", c.name, got, c.want)
		}
	}
	for _, body := range someBodies() {
		if got := impl.Frame(body); got != slowFrame(body) {
			t.Fatalf("Frame of %d bytes begins with %q, want %q", len(body), got[:min(len(got), 12)], slowFrame(body)[:9])
		}
	}
	if got := impl.Frame(strings.Repeat("a", impl.MaxBody)); !strings.HasPrefix(got, "\x00\x00\x07\xd0") || len(got) != impl.MaxBody+8 {
		t.Errorf("Frame of MaxBody bytes has %d bytes", len(got))
	}
}

func TestUnframeReadsBack(t *testing.T) {
	for _, body := range someBodies() {
		made := impl.Frame(body)
		for _, tail := range append(tails(), made, made[:len(made)-1]) {
			wantUnframe(t, "made", made+tail, body, len(body)+8, impl.FrOk)
		}
	}
}

func TestUnframeOrder(t *testing.T) {
	longest := "\x00\x00\x07\xd0"
	cases := []struct {
		name, s string
		code    int
	}{
		{"no byte", "", impl.FrShort},
		{"one byte", "\x00", impl.FrShort},
		{"three bytes of no length", "\x00\x00\x00", impl.FrShort},
		{"three bytes of a length far too great", "\xff\xff\xff", impl.FrShort},
		{"length 0, nothing behind", "\x00\x00\x00\x00", impl.FrBad},
		{"length 0, with its sum", slowFrame(""), impl.FrBad},
		{"length 1, nothing behind", "\x00\x00\x00\x01", impl.FrShort},
		{"length MaxBody, nothing behind", longest, impl.FrShort},
		{"length MaxBody, one byte lacks, other sum", longest + strings.Repeat("a", 4+impl.MaxBody-1), impl.FrShort},
		{"length MaxBody, other sum", longest + strings.Repeat("a", 4+impl.MaxBody), impl.FrBad},
		{"length MaxBody + 1, nothing behind", "\x00\x00\x07\xd1", impl.FrBad},
		{"length MaxBody + 1, some behind", "\x00\x00\x07\xd1abc", impl.FrBad},
		{"length MaxBody + 1, whole, with its sum", slowFrame(strings.Repeat("a", impl.MaxBody+1)), impl.FrBad},
		{"the sign's bit", "\x80\x00\x00\x01", impl.FrBad},
		{"the greatest length", "\xff\xff\xff\xff", impl.FrBad},
		{"length 65537", "\x00\x01\x00\x01", impl.FrBad},
		{"length 16777217", "\x01\x00\x00\x01", impl.FrBad},
		{"sum cut off", "\x00\x00\x00\x01\x00\x00\x00", impl.FrShort},
		{"other sum, no body", "\x00\x00\x00\x01\x00\x00\x00\x00", impl.FrShort},
		{"other sum, body", "\x00\x00\x00\x01\x00\x00\x00\x00a", impl.FrBad},
		{"sum of the body alone", "\x00\x00\x00\x01" + fourBytes(slowCrc("a")) + "a", impl.FrBad},
		{"sum with the lowest byte first", "\x00\x00\x00\x01" + reversed(impl.Frame("a")[4:8]) + "a", impl.FrBad},
		{"a byte ahead of the frame", "\x00" + impl.Frame("a"), impl.FrBad},
	}
	for _, c := range cases {
		wantUnframe(t, c.name, c.s, "", 0, c.code)
		wantFrames(t, c.name, c.s, nil, 0)
	}
}

func reversed(s string) string {
	text := []byte(s)
	slices.Reverse(text)
	return string(text)
}

func TestUnframeCutOff(t *testing.T) {
	for _, body := range someBodies() {
		made := impl.Frame(body)
		for cut := range len(made) {
			wantUnframe(t, "cut off", made[:cut], "", 0, impl.FrShort)
		}
	}
}

func TestUnframeOneByteChanged(t *testing.T) {
	for _, body := range someBodies() {
		made := impl.Frame(body)
		for _, at := range []int{4, 5, 6, 7, 8, 8 + len(body)/2, len(made) - 1} {
			for b := range 256 {
				if byte(b) != made[at] {
					s := withByte(made, at, byte(b))
					wantUnframe(t, "changed", s, "", 0, impl.FrBad)
					wantUnframe(t, "changed, more behind", s+"more", "", 0, impl.FrBad)
				}
			}
		}
	}
}

func TestUnframeEveryByteChanged(t *testing.T) {
	for _, body := range []string{"a", "tidebook", rising(200, true), rising(impl.MaxBody, false)} {
		made := impl.Frame(body)
		for at := 4; at < len(made); at++ {
			for _, turn := range []byte{1, 128, 255} {
				wantUnframe(t, "changed", withByte(made, at, made[at]^turn), "", 0, impl.FrBad)
			}
		}
	}
}

func TestFramesOneBehindTheOther(t *testing.T) {
	wantFrames(t, "nothing", "", nil, 0)
	all, bodies := "", []string(nil)
	for _, body := range someBodies() {
		wantFrames(t, "alone", impl.Frame(body), []string{body}, len(body)+8)
		all += impl.Frame(body)
		bodies = append(bodies, body)
		wantFrames(t, "together", all, bodies, len(all))
	}
	many := slices.Repeat([]string{"x"}, 3000)
	wantFrames(t, "many alike", strings.Repeat(impl.Frame("x"), 3000), many, 9*3000)
}

func TestFramesCutOff(t *testing.T) {
	bodies := []string{"a", "tide", rising(300, false), "\x00", rising(impl.MaxBody, true), "end"}
	all, ends := "", []int{0}
	for _, body := range bodies {
		all += impl.Frame(body)
		ends = append(ends, len(all))
	}
	whole := 0
	for cut := range len(all) + 1 {
		if whole < len(bodies) && cut == ends[whole+1] {
			whole++
		}
		wantFrames(t, "cut off", all[:cut], bodies[:whole], ends[whole])
	}
}

func TestFramesStop(t *testing.T) {
	first, second := impl.Frame("first"), impl.Frame("second")
	right := []string{"first", "second"}
	stops := []struct {
		name, s string
	}{
		{"one byte", "\x00"},
		{"three bytes", "\x00\x00\x00"},
		{"no sum", "\x00\x00\x00\x01"},
		{"last byte lacks", impl.Frame("short")[:12]},
		{"length 0", "\x00\x00\x00\x00"},
		{"length MaxBody + 1", "\x00\x00\x07\xd1"},
		{"other sum", withByte(impl.Frame("bad"), 4, impl.Frame("bad")[4]^1)},
		{"other body", withByte(impl.Frame("bad"), 10, 'e')},
		{"no frame", "no frame at all"},
	}
	for _, c := range stops {
		wantFrames(t, c.name, first+second+c.s, right, len(first)+len(second))
	}
	for _, c := range stops[4:] {
		wantFrames(t, c.name+" between", first+c.s+second, right[:1], len(first))
	}
	for at := 4; at < len(first); at++ {
		wantFrames(t, "first one changed", withByte(first, at, first[at]^1)+second, nil, 0)
	}
	for at := 4; at < len(second); at++ {
		wantFrames(t, "second one changed", first+withByte(second, at, second[at]^1)+first, right[:1], len(first))
	}
}

// What Frames takes is what Frame makes of the bodies, and Unframe takes no step beyond.
func TestFramesTakesWhatIsMade(t *testing.T) {
	texts := textsOf("\x00\x01\xff", 7)
	for _, s := range textsOf(allBytes(), 1) {
		texts = append(texts, impl.Frame("a")+s, impl.Frame("a"+s)+impl.Frame(s), "\x00\x00\x00\x01"+s+impl.Frame("a"))
	}
	for _, s := range texts {
		bodies, used := impl.Frames(s)
		made := ""
		for _, body := range bodies {
			made += impl.Frame(body)
		}
		if used < 0 || used > len(s) || made != s[:used] {
			t.Fatalf("Frames(%q) = %q, %d", s, bodies, used)
		}
		if _, n, code := impl.Unframe(s[used:]); n != 0 || code == impl.FrOk {
			t.Fatalf("Frames(%q) = %q, %d, but a frame is next", s, bodies, used)
		}
	}
}

func TestFramesAnswersNewLists(t *testing.T) {
	s := impl.Frame("a") + impl.Frame("b")
	l, _ := impl.Frames(s)
	l[0] = "changed"
	_ = append(l[:1], "changed too")
	wantFrames(t, "again", s, []string{"a", "b"}, 18)
}
