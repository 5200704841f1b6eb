package tests

import (
	"strings"
	"testing"

	"loop.example/g00360/impl"
)

// Promise 2: Crc is as said, and of texts that differ in one byte it differs.

// slowCrc does the document's words byte by byte and bit by bit, in plain numbers.
func slowCrc(s string) int {
	c := 4294967295
	for i := range len(s) {
		c ^= int(s[i])
		for range 8 {
			odd := c%2 == 1
			c /= 2
			if odd {
				c ^= 2197175160
			}
		}
	}
	return 4294967295 - c
}

// rising has the bytes 0, 1, 2 .. of that many, or these from the last to the first.
func rising(many int, backwards bool) string {
	text := make([]byte, many)
	for i := range text {
		text[i] = byte(i)
		if backwards {
			text[i] = byte(many - 1 - i)
		}
	}
	return string(text)
}

// withByte is s with another byte at that place.
func withByte(s string, at int, b byte) string {
	return s[:at] + string([]byte{b}) + s[at+1:]
}

func TestCrcKnown(t *testing.T) {
	cases := []struct {
		name, s string
		want    int
	}{
		{"no bytes", "", 0},
		{"nine digits", "123456789", 3808858755},
		{"thirty-two times 0", strings.Repeat("\x00", 32), 0x8a9136aa},
		{"thirty-two times 255", strings.Repeat("\xff", 32), 0x62a8ab43},
		{"0 to 31", rising(32, false), 0x46dd794e},
		{"31 to 0", rising(32, true), 0x113fdb5c},
		{"one byte 0", "\x00", 1383945041},
		{"one byte 255", "\xff", 4278190080},
		{"four bytes 255", "\xff\xff\xff\xff", 4294967295},
	}
	for _, c := range cases {
		if got := impl.Crc(c.s); got != c.want || slowCrc(c.s) != c.want {
			t.Errorf("%s: Crc = %d, bit by bit %d, want %d", c.name, got, slowCrc(c.s), c.want)
		}
	}
}

func TestCrcBitByBit(t *testing.T) {
	texts := append(textsOf(allBytes(), 2), textsOf("\x00\x01\x80\xffa", 6)...)
	for many := range 300 {
		texts = append(texts, rising(many, false), rising(many, true), strings.Repeat("\x00", many), strings.Repeat("\xff", many))
	}
	texts = append(texts, "caf\u00e9 \u4e16\u754c", "\xc3\x28 no rune", strings.Repeat(allBytes()+"tide", 5000))
	for _, s := range texts {
		if got, want := impl.Crc(s), slowCrc(s); got != want {
			t.Fatalf("Crc of %d bytes beginning with %q = %d, want %d", len(s), s[:min(len(s), 20)], got, want)
		}
	}
}

func TestCrcBounds(t *testing.T) {
	for _, s := range textsOf(allBytes(), 2) {
		if got := impl.Crc(s); got < 0 || got > 4294967295 {
			t.Fatalf("Crc(%q) = %d, out of four bytes", s, got)
		}
	}
}

func TestCrcTellsLengthsApart(t *testing.T) {
	for _, b := range []string{"\x00", "\xff", "a"} {
		seen := map[int]int{}
		for many := range 200 {
			sum := impl.Crc(strings.Repeat(b, many))
			if other, ok := seen[sum]; ok {
				t.Fatalf("%d and %d times %q have the Crc %d", other, many, b, sum)
			}
			seen[sum] = many
		}
	}
}

func TestCrcTellsOneByteApart(t *testing.T) {
	texts := []string{"a", "\x00", "\xff", "123456789", rising(256, false), strings.Repeat("\x00", 100), strings.Repeat("\xff", 101), strings.Repeat("tidebook", 250), strings.Repeat(allBytes(), 40)}
	for _, s := range texts {
		for _, at := range []int{0, len(s) / 2, len(s) - 1} {
			seen := map[int]int{}
			for b := range 256 {
				sum := impl.Crc(withByte(s, at, byte(b)))
				if other, ok := seen[sum]; ok {
					t.Fatalf("%d bytes: %d and %d at %d have the Crc %d", len(s), other, b, at, sum)
				}
				seen[sum] = b
			}
		}
	}
}

func TestCrcTellsEveryPlaceApart(t *testing.T) {
	for _, s := range []string{"123456789", rising(64, true), strings.Repeat("\x00", 64), strings.Repeat("\xff", 64)} {
		whole := impl.Crc(s)
		for at := range len(s) {
			for b := range 256 {
				if byte(b) != s[at] && impl.Crc(withByte(s, at, byte(b))) == whole {
					t.Fatalf("%q with %d at %d has the same Crc", s, b, at)
				}
			}
		}
	}
}

func TestCrcIsTheSameAgain(t *testing.T) {
	first := impl.Crc("123456789")
	impl.Crc(allBytes())
	if again := impl.Crc("123456789"); again != first {
		t.Errorf("Crc = %d, then %d", first, again)
	}
}
