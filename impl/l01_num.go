package impl

import (
	"strconv"
	"strings"
)

const MaxVar = 562949953421311

const (
	maxWidth  = 7 // eight bytes could pass the greatest int
	maxVarLen = 7 // MaxVar has 49 bits, seven in each byte
	maxDigits = 9
	hexDigits = "0123456789abcdef"
)

// put may hand back b's own memory, so a caller goes on with the result alone.
func put(b []byte, more ...byte) []byte {
	end := len(b) + len(more)
	if end > cap(b) {
		// Twice the room keeps many small puts linear.
		wider := make([]byte, len(b), 2*end)
		copy(wider, b)
		b = wider
	}
	copy(b[len(b):end], more)
	return b[:end]
}

func widthOk(width int) bool { return 1 <= width && width <= maxWidth }

func Fixed(n int, width int) string {
	if !widthOk(width) || n < 0 || n>>(8*width) != 0 {
		return ""
	}
	var b []byte
	for left := width - 1; left >= 0; left-- {
		b = put(b, byte(n>>(8*left)))
	}
	return string(b)
}

func ReadFixed(s string, width int) (int, bool) {
	if !widthOk(width) || len(s) < width {
		return 0, false
	}
	n := 0
	for i := 0; i < width; i++ {
		n = n<<8 | int(s[i])
	}
	return n, true
}

func Var(n int) string {
	if n < 0 || n > MaxVar {
		return ""
	}
	var b []byte
	for ; n >= 128; n >>= 7 {
		b = put(b, byte(n%128+128))
	}
	return string(put(b, byte(n)))
}

func ReadVar(s string) (int, int) {
	n := 0
	for i := 0; i < len(s) && i < maxVarLen; i++ {
		n |= int(s[i]%128) << (7 * i)
		if s[i] >= 128 {
			continue
		}
		if s[i] == 0 && i > 0 {
			// The bytes ahead of a last nought would do without it.
			return 0, 0
		}
		return n, i + 1
	}
	return 0, 0
}

func Hex(s string) string {
	b := make([]byte, 0, 2*len(s))
	for i := 0; i < len(s); i++ {
		b = put(b, hexDigits[s[i]>>4], hexDigits[s[i]&15])
	}
	return string(b)
}

func Unhex(s string) (string, bool) {
	if len(s)%2 != 0 {
		return "", false
	}
	b := make([]byte, 0, len(s)/2)
	for i := 0; i < len(s); i += 2 {
		high := strings.IndexByte(hexDigits, s[i])
		low := strings.IndexByte(hexDigits, s[i+1])
		if high < 0 || low < 0 {
			return "", false
		}
		b = put(b, byte(high<<4|low))
	}
	return string(b), true
}

func Dec(n int) string { return strconv.Itoa(n) }

func ReadDec(s string) (int, bool) {
	if len(strings.TrimPrefix(s, "-")) > maxDigits {
		return 0, false
	}
	n, err := strconv.Atoi(s)
	// Atoi also takes a +, needless noughts and -0, none of which Dec makes.
	if err != nil || Dec(n) != s {
		return 0, false
	}
	return n, true
}
