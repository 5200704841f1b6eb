package tests

import (
	"math"
	"strconv"
	"strings"
	"testing"

	"loop.example/g00360/impl"
)

// Promise 1: what Fixed, Var, Hex and Dec make is read back, and the readers take nothing else.

// tails are what may stand behind a text that is read from its beginning.
func tails() []string {
	return []string{"", "\x00", "\x01", "\x7f", "\x80", "\x80\x00", "\xff\xff\xff\xff\xff\xff\xff\xff", "z9 -"}
}

// textsOf has every text over the letters that has at most most bytes.
func textsOf(letters string, most int) []string {
	all := []string{""}
	begin := 0
	for range most {
		end := len(all)
		for _, head := range all[begin:end] {
			for i := range len(letters) {
				all = append(all, head+letters[i:i+1])
			}
		}
		begin = end
	}
	return all
}

// allBytes has each byte once.
func allBytes() string {
	text := make([]byte, 256)
	for i := range text {
		text[i] = byte(i)
	}
	return string(text)
}

// spread has numbers from 0 to most, thick at every power of two.
func spread(most int) []int {
	var l []int
	for bit := range 62 {
		for _, near := range []int{-2, -1, 0, 1, 2} {
			if n := 1<<bit + near; n >= 0 && n <= most {
				l = append(l, n)
			}
		}
	}
	for i := range 1000 {
		l = append(l, int(uint64(i)*0x9e3779b97f4a7c15>>1)%(most+1))
	}
	return append(l, 0, most)
}

func TestFixedBytes(t *testing.T) {
	cases := []struct {
		n, width int
		want     string
	}{
		{0, 1, "\x00"},
		{0, 3, "\x00\x00\x00"},
		{7, 1, "\x07"},
		{255, 1, "\xff"},
		{256, 1, ""},
		{256, 2, "\x01\x00"},
		{0x010203, 3, "\x01\x02\x03"},
		{0x010203, 5, "\x00\x00\x01\x02\x03"},
		{1<<32 - 1, 4, "\xff\xff\xff\xff"},
		{1 << 32, 4, ""},
		{0x01020304050607, 7, "\x01\x02\x03\x04\x05\x06\x07"},
		{1<<56 - 1, 7, "\xff\xff\xff\xff\xff\xff\xff"},
		{1 << 56, 7, ""},
		{math.MaxInt, 7, ""},
		{-1, 1, ""},
		{-1, 7, ""},
		{math.MinInt, 7, ""},
	}
	for _, c := range cases {
		if got := impl.Fixed(c.n, c.width); got != c.want {
			t.Errorf("Fixed(%d, %d) = %q, want %q", c.n, c.width, got, c.want)
		}
	}
}

func TestFixedWidthOutOfRange(t *testing.T) {
	for _, width := range []int{math.MinInt, -8, -1, 0, 8, 9, 64, math.MaxInt} {
		for _, n := range []int{0, 1, 255, math.MaxInt, -1, math.MinInt} {
			if got := impl.Fixed(n, width); got != "" {
				t.Errorf("Fixed(%d, %d) = %q, want nothing", n, width, got)
			}
		}
		for _, s := range []string{"", "a", strings.Repeat("\x01", 100)} {
			if n, ok := impl.ReadFixed(s, width); n != 0 || ok {
				t.Errorf("ReadFixed(%q, %d) = %d %v, want 0 false", s, width, n, ok)
			}
		}
	}
}

func TestFixedFitsJust(t *testing.T) {
	for width := 1; width <= 7; width++ {
		most := 1<<(8*width) - 1
		if got := impl.Fixed(most, width); got != strings.Repeat("\xff", width) {
			t.Errorf("Fixed(%d, %d) = %q", most, width, got)
		}
		if got := impl.Fixed(most+1, width); got != "" {
			t.Errorf("Fixed(%d, %d) = %q, want nothing", most+1, width, got)
		}
	}
}

func TestFixedReadBack(t *testing.T) {
	for width := 1; width <= 7; width++ {
		for _, n := range spread(1<<(8*width) - 1) {
			made := impl.Fixed(n, width)
			if len(made) != width {
				t.Fatalf("Fixed(%d, %d) = %q", n, width, made)
			}
			for _, tail := range tails() {
				if got, ok := impl.ReadFixed(made+tail, width); got != n || !ok {
					t.Fatalf("ReadFixed(%q, %d) = %d %v, want %d", made+tail, width, got, ok, n)
				}
			}
		}
	}
}

func TestReadFixedTakesWhatIsMade(t *testing.T) {
	for _, s := range textsOf("\x00\x01\x7f\x80\xff", 5) {
		for width := 1; width <= 7; width++ {
			n, ok := impl.ReadFixed(s, width)
			if len(s) < width {
				if n != 0 || ok {
					t.Fatalf("ReadFixed(%q, %d) = %d %v, want 0 false", s, width, n, ok)
				}
				continue
			}
			if !ok || impl.Fixed(n, width) != s[:width] {
				t.Fatalf("ReadFixed(%q, %d) = %d %v, made %q", s, width, n, ok, impl.Fixed(n, width))
			}
		}
	}
}

func TestVarBytes(t *testing.T) {
	if impl.MaxVar != 562949953421311 {
		t.Errorf("MaxVar = %d", impl.MaxVar)
	}
	cases := []struct {
		n    int
		want string
	}{
		{0, "\x00"},
		{1, "\x01"},
		{127, "\x7f"},
		{128, "\x80\x01"},
		{300, "\xac\x02"},
		{16383, "\xff\x7f"},
		{16384, "\x80\x80\x01"},
		{1 << 42, "\x80\x80\x80\x80\x80\x80\x01"},
		{1<<42 - 1, "\xff\xff\xff\xff\xff\x7f"},
		{impl.MaxVar, "\xff\xff\xff\xff\xff\xff\x7f"},
		{impl.MaxVar + 1, ""},
		{math.MaxInt, ""},
		{-1, ""},
		{math.MinInt, ""},
	}
	for _, c := range cases {
		if got := impl.Var(c.n); got != c.want {
			t.Errorf("Var(%d) = %q, want %q", c.n, got, c.want)
		}
	}
}

func TestVarReadBack(t *testing.T) {
	for _, n := range spread(impl.MaxVar) {
		made := impl.Var(n)
		for _, tail := range tails() {
			if got, k := impl.ReadVar(made + tail); got != n || k != len(made) || k == 0 {
				t.Fatalf("ReadVar(%q) = %d %d, want %d %d", made+tail, got, k, n, len(made))
			}
		}
		for cut := range len(made) {
			if got, k := impl.ReadVar(made[:cut]); got != 0 || k != 0 {
				t.Fatalf("ReadVar(%q) = %d %d, want 0 0", made[:cut], got, k)
			}
		}
	}
}

func TestReadVarTakesNothingElse(t *testing.T) {
	cases := []struct {
		name, s string
	}{
		{"nothing", ""},
		{"cut off", "\x80"},
		{"cut off", "\xff\xff\xff\xff\xff\xff\xff"},
		{"needless byte", "\x80\x00"},
		{"needless byte", "\xac\x82\x00"},
		{"needless byte", "\xff\xff\xff\xff\xff\xff\x00"},
		{"MaxVar + 1", "\x80\x80\x80\x80\x80\x80\x80\x01"},
		{"eight bytes, a needless one", "\xff\xff\xff\xff\xff\xff\xff\x00"},
		{"eight bytes", "\xff\xff\xff\xff\xff\xff\xff\x7f"},
		{"ten bytes", "\xff\xff\xff\xff\xff\xff\xff\xff\xff\x01"},
		{"no end", strings.Repeat("\x80", 1000)},
	}
	for _, c := range cases {
		for _, tail := range []string{"", "\x80\x80"} {
			if n, k := impl.ReadVar(c.s + tail); n != 0 || k != 0 {
				t.Errorf("%s: ReadVar(%q) = %d %d, want 0 0", c.name, c.s+tail, n, k)
			}
		}
	}
}

func TestReadVarTakesWhatIsMade(t *testing.T) {
	texts := textsOf("\x00\x01\x7f\x80\xff", 6)
	for _, s := range textsOf(allBytes(), 2) {
		texts = append(texts, s, "\x80\x80\x80\x80\x80"+s, "\xff\xff\xff\xff\xff\xff"+s)
	}
	for _, s := range texts {
		n, k := impl.ReadVar(s)
		if k == 0 && n != 0 || k < 0 || k > len(s) {
			t.Fatalf("ReadVar(%q) = %d %d", s, n, k)
		}
		if k > 0 && impl.Var(n) != s[:k] {
			t.Fatalf("ReadVar(%q) = %d %d, but Var makes %q", s, n, k, impl.Var(n))
		}
		if want := varLength(s); k != want {
			t.Fatalf("ReadVar(%q) = %d %d, want %d bytes", s, n, k, want)
		}
	}
}

// varLength says how many bytes the Var has with which s begins, by the look of its bytes alone.
func varLength(s string) int {
	end := 0
	for end < len(s) && s[end] >= 128 {
		end++
	}
	if end == len(s) || end > 6 || end > 0 && s[end] == 0 {
		return 0
	}
	return end + 1
}

func TestHexBytes(t *testing.T) {
	cases := []struct {
		s, want string
	}{
		{"", ""},
		{"a\xff", "61ff"},
		{"\x00", "00"},
		{"\x0f\xf0", "0ff0"},
		{"\x01\x23\x45\x67\x89\xab\xcd\xef", "0123456789abcdef"},
		{"\u00e9", "c3a9"},
	}
	for _, c := range cases {
		if got := impl.Hex(c.s); got != c.want {
			t.Errorf("Hex(%q) = %q, want %q", c.s, got, c.want)
		}
	}
}

func TestHexReadBack(t *testing.T) {
	texts := append(textsOf(allBytes(), 2), allBytes(), strings.Repeat(allBytes(), 20))
	for _, s := range texts {
		made := impl.Hex(s)
		if len(made) != 2*len(s) {
			t.Fatalf("Hex(%q) = %q", s, made)
		}
		if got, ok := impl.Unhex(made); got != s || !ok {
			t.Fatalf("Unhex(%q) = %q %v, want %q", made, got, ok, s)
		}
	}
}

func TestUnhexTakesNothingElse(t *testing.T) {
	wrong := []string{"6", "616", "6F", "F6", "AB", "61fF", "0g", "g0", "/0", ":0", "0`", "0@", " 0", "0x61", "61 ", "61\n", "6\x00", "-1", "\xff\xff", "61616", "61zz61"}
	for _, s := range wrong {
		if got, ok := impl.Unhex(s); got != "" || ok {
			t.Errorf("Unhex(%q) = %q %v, want nothing and false", s, got, ok)
		}
	}
}

func TestUnhexTakesWhatIsMade(t *testing.T) {
	for _, s := range append(textsOf(allBytes(), 2), textsOf("09afAFg", 5)...) {
		got, ok := impl.Unhex(s)
		right := len(s)%2 == 0 && strings.TrimLeft(s, "0123456789abcdef") == ""
		if ok != right || ok && impl.Hex(got) != s || !ok && got != "" {
			t.Fatalf("Unhex(%q) = %q %v, want %v", s, got, ok, right)
		}
	}
}

func TestDecDigits(t *testing.T) {
	cases := []struct {
		n    int
		want string
	}{
		{0, "0"},
		{7, "7"},
		{-7, "-7"},
		{10, "10"},
		{-120, "-120"},
		{999999999, "999999999"},
		{1000000000, "1000000000"},
		{-1000000000, "-1000000000"},
		{9223372036854775807, "9223372036854775807"},
		{-9223372036854775808, "-9223372036854775808"},
	}
	for _, c := range cases {
		if got := impl.Dec(c.n); got != c.want {
			t.Errorf("Dec(%d) = %q, want %q", c.n, got, c.want)
		}
	}
}

func TestDecReadBack(t *testing.T) {
	for _, n := range spread(999999999) {
		for _, m := range []int{n, -n} {
			if got, ok := impl.ReadDec(impl.Dec(m)); got != m || !ok {
				t.Fatalf("ReadDec(%q) = %d %v, want %d", impl.Dec(m), got, ok, m)
			}
		}
	}
}

func TestReadDecNineDigits(t *testing.T) {
	cases := []struct {
		s    string
		want int
		ok   bool
	}{
		{"999999999", 999999999, true},
		{"-999999999", -999999999, true},
		{"100000000", 100000000, true},
		{"-100000000", -100000000, true},
		{"1000000000", 0, false},
		{"-1000000000", 0, false},
		{"0000000001", 0, false},
		{"9223372036854775807", 0, false},
		{"-9223372036854775808", 0, false},
		{"9223372036854775808", 0, false},
		{"18446744073709551617", 0, false},
		{strings.Repeat("1", 1000), 0, false},
	}
	for _, c := range cases {
		if n, ok := impl.ReadDec(c.s); n != c.want || ok != c.ok {
			t.Errorf("ReadDec(%q) = %d %v, want %d %v", c.s, n, ok, c.want, c.ok)
		}
	}
}

func TestReadDecTakesNothingElse(t *testing.T) {
	wrong := []string{"", "-", "--", "--1", "-0", "00", "01", "-01", "007", "+1", "+0", "+", " 1", "1 ", "1 2", "- 1", "1-", "1-2", "\t1", "1\n", "1.0", "1e3", "1_000", "0x1", "a", "12a", "a12", "1/", "1:", "1\x00", "\x00", "\xff", "\u0661"}
	for _, s := range wrong {
		if n, ok := impl.ReadDec(s); n != 0 || ok {
			t.Errorf("ReadDec(%q) = %d %v, want 0 false", s, n, ok)
		}
	}
}

func TestReadDecTakesWhatIsMade(t *testing.T) {
	for _, s := range append(textsOf(allBytes(), 2), textsOf("-+ 0159a", 6)...) {
		n, ok := impl.ReadDec(s)
		want, err := strconv.Atoi(s)
		right := err == nil && strconv.Itoa(want) == s
		if !right {
			want = 0
		}
		if n != want || ok != right {
			t.Fatalf("ReadDec(%q) = %d %v, want %d %v", s, n, ok, want, right)
		}
		if ok && impl.Dec(n) != s {
			t.Fatalf("ReadDec(%q) = %d, but Dec makes %q", s, n, impl.Dec(n))
		}
	}
}
