package impl

import (
	"strconv"
	"strings"
)

const MaxVar = 562949953421311

const maxWidth = 7
const maxVarBytes = 7
const maxDecDigits = 9

const hexDigits = "0123456789abcdef"

func Fixed(n int, width int) string {
	if width < 1 || width > maxWidth || n < 0 || n>>(8*width) != 0 {
		return ""
	}
	text := make([]byte, width)
	for i := range width {
		text[width-1-i] = byte(n >> (8 * i))
	}
	return string(text)
}

func ReadFixed(s string, width int) (int, bool) {
	if width < 1 || width > maxWidth || len(s) < width {
		return 0, false
	}
	n := 0
	for i := range width {
		n = n<<8 | int(s[i])
	}
	return n, true
}

func Var(n int) string {
	if n < 0 || n > MaxVar {
		return ""
	}
	text := make([]byte, 0, maxVarBytes)
	for n >= 128 {
		text = append(text, byte(n%128+128))
		n /= 128
	}
	return string(append(text, byte(n)))
}

func ReadVar(s string) (int, int) {
	n := 0
	// MaxVar fills maxVarBytes to the last bit, so no further check of the bound is needed.
	for i := range min(len(s), maxVarBytes) {
		c := int(s[i])
		n |= c % 128 << (7 * i)
		if c >= 128 {
			continue
		}
		// A last byte 0 adds nothing: Var would have ended ahead of it.
		if c == 0 && i > 0 {
			return 0, 0
		}
		return n, i + 1
	}
	return 0, 0
}

func Hex(s string) string {
	text := make([]byte, 0, 2*len(s))
	for i := range len(s) {
		text = append(text, hexDigits[s[i]/16], hexDigits[s[i]%16])
	}
	return string(text)
}

func Unhex(s string) (string, bool) {
	if len(s)%2 != 0 {
		return "", false
	}
	text := make([]byte, 0, len(s)/2)
	for i := range len(s) / 2 {
		high := strings.IndexByte(hexDigits, s[2*i])
		low := strings.IndexByte(hexDigits, s[2*i+1])
		if high < 0 || low < 0 {
			return "", false
		}
		text = append(text, byte(16*high+low))
	}
	return string(text), true
}

func Dec(n int) string {
	return strconv.Itoa(n)
}

func ReadDec(s string) (int, bool) {
	digits, below := strings.CutPrefix(s, "-")
	n, ok := readDigits(digits)
	if !below {
		return n, ok
	}
	// Dec puts no - ahead of 0.
	if n == 0 {
		return 0, false
	}
	return -n, ok
}

// readDigits takes 1 to maxDecDigits digits without needless noughts; 0 and false else.
func readDigits(s string) (int, bool) {
	if s == "" || len(s) > maxDecDigits {
		return 0, false
	}
	n, ok := 0, true
digits:
	for i := range len(s) {
		switch c := s[i]; {
		case c < '0' || c > '9', c == '0' && i == 0 && len(s) > 1:
			n, ok = 0, false
			break digits
		default:
			n = 10*n + int(c-'0')
		}
	}
	return n, ok
}
