package tests

import (
	"encoding/hex"
	"math"
	"math/big"
	"regexp"
	"strings"
	"testing"

	"loop.example/g01407/impl"
)

// tails are what may stand behind a text that a reader takes from the beginning.
var tails = []string{"", "\x00", "\x01", "\x7f", "\x80", "\xff", "z", "\x00\x00\x00\x00\x00\x00\x00\x00", "\xff\xff\xff\xff\xff\xff\xff\xff"}

// eachText calls f with every text over the alphabet of at most so many bytes.
func eachText(alphabet string, most int, f func(s string)) {
	var grow func(s string)
	grow = func(s string) {
		f(s)
		if len(s) == most {
			return
		}
		for i := 0; i < len(alphabet); i++ {
			grow(s + alphabet[i:i+1])
		}
	}
	grow("")
}

// edgesTo are numbers from 0 to most, close by each power of two.
func edgesTo(most int) []int {
	var l []int
	for bit := 0; bit < 62; bit++ {
		for _, n := range []int{1<<bit - 1, 1 << bit, 1<<bit + 1, 0x123456789abcdef >> bit} {
			if n <= most {
				l = append(l, n)
			}
		}
	}
	return append(l, most)
}

func TestFixed(t *testing.T) {
	for _, c := range []struct {
		n, width int
		want     string
	}{
		{0, 1, "\x00"}, {255, 1, "\xff"}, {1, 2, "\x00\x01"}, {256, 2, "\x01\x00"},
		{65535, 2, "\xff\xff"}, {0x010203, 3, "\x01\x02\x03"}, {0x01020304, 4, "\x01\x02\x03\x04"},
		{0, 7, "\x00\x00\x00\x00\x00\x00\x00"}, {1, 7, "\x00\x00\x00\x00\x00\x00\x01"},
		{0x01020304050607, 7, "\x01\x02\x03\x04\x05\x06\x07"},
		{1<<56 - 1, 7, "\xff\xff\xff\xff\xff\xff\xff"},
		{0, 0, ""}, {0, 8, ""}, {1, 8, ""}, {math.MaxInt, 8, ""}, {0, -1, ""},
		{0, math.MinInt, ""}, {0, math.MaxInt, ""}, {1, 1 << 61, ""},
		{-1, 1, ""}, {-1, 7, ""}, {math.MinInt, 1, ""}, {math.MinInt, 7, ""},
		{256, 1, ""}, {65536, 2, ""}, {1 << 56, 7, ""}, {math.MaxInt, 7, ""},
	} {
		if got := impl.Fixed(c.n, c.width); got != c.want {
			t.Errorf("Fixed(%d, %d) = %q, want %q", c.n, c.width, got, c.want)
		}
	}
}

func TestFixedEdgesOfEachWidth(t *testing.T) {
	for width := 1; width <= 7; width++ {
		greatest := 1<<(8*width) - 1
		if got := impl.Fixed(greatest, width); got != strings.Repeat("\xff", width) {
			t.Errorf("Fixed(%d, %d) = %q", greatest, width, got)
		}
		for _, n := range []int{-greatest, -1, greatest + 1, math.MaxInt} {
			if got := impl.Fixed(n, width); got != "" {
				t.Errorf("Fixed(%d, %d) = %q, want none", n, width, got)
			}
		}
	}
}

func TestReadFixedTakesBackWhatFixedMakes(t *testing.T) {
	for width := 1; width <= 7; width++ {
		for _, n := range edgesTo(1<<(8*width) - 1) {
			s := impl.Fixed(n, width)
			if len(s) != width {
				t.Fatalf("Fixed(%d, %d) = %q", n, width, s)
			}
			for _, tail := range tails {
				if got, ok := impl.ReadFixed(s+tail, width); got != n || !ok {
					t.Errorf("ReadFixed(%q, %d) = %d, %v, want %d", s+tail, width, got, ok, n)
				}
			}
			for k := 0; k < width; k++ {
				if got, ok := impl.ReadFixed(s[:k], width); got != 0 || ok {
					t.Errorf("ReadFixed(%q, %d) = %d, %v of a text too short", s[:k], width, got, ok)
				}
			}
		}
	}
}

func TestReadFixedTellsWhatFixedMakes(t *testing.T) {
	eachText("\x00\x01\x7f\x80\xff", 5, func(s string) {
		for width := 1; width <= 7; width++ {
			n, ok := impl.ReadFixed(s, width)
			if ok != (len(s) >= width) {
				t.Fatalf("ReadFixed(%q, %d) says %v", s, width, ok)
			}
			if ok && impl.Fixed(n, width) != s[:width] || !ok && n != 0 {
				t.Fatalf("ReadFixed(%q, %d) = %d, %v", s, width, n, ok)
			}
		}
	})
}

func TestReadFixedRefusesWidths(t *testing.T) {
	for _, width := range []int{math.MinInt, -8, -1, 0, 8, 9, 16, 1 << 61, math.MaxInt} {
		for _, s := range []string{"", "\x01", "\x01\x02\x03\x04\x05\x06\x07\x08", strings.Repeat("\x01", 20)} {
			if n, ok := impl.ReadFixed(s, width); n != 0 || ok {
				t.Errorf("ReadFixed(%q, %d) = %d, %v", s, width, n, ok)
			}
		}
	}
}

func TestVar(t *testing.T) {
	for _, c := range []struct {
		n    int
		want string
	}{
		{0, "\x00"}, {1, "\x01"}, {127, "\x7f"}, {128, "\x80\x01"}, {129, "\x81\x01"}, {300, "\xac\x02"},
		{16383, "\xff\x7f"}, {16384, "\x80\x80\x01"}, {1<<21 - 1, "\xff\xff\x7f"}, {1 << 21, "\x80\x80\x80\x01"},
		{1 << 42, "\x80\x80\x80\x80\x80\x80\x01"}, {1<<42 - 1, "\xff\xff\xff\xff\xff\x7f"},
		{impl.MaxVar - 1, "\xfe\xff\xff\xff\xff\xff\x7f"}, {impl.MaxVar, "\xff\xff\xff\xff\xff\xff\x7f"},
		{impl.MaxVar + 1, ""}, {math.MaxInt, ""}, {-1, ""}, {-128, ""}, {math.MinInt, ""},
	} {
		if got := impl.Var(c.n); got != c.want {
			t.Errorf("Var(%d) = %q, want %q", c.n, got, c.want)
		}
	}
	if impl.MaxVar != 1<<49-1 {
		t.Errorf("MaxVar = %d", impl.MaxVar)
	}
}

func TestReadVarTakesBackWhatVarMakes(t *testing.T) {
	for _, n := range edgesTo(impl.MaxVar) {
		s := impl.Var(n)
		if s == "" {
			t.Fatalf("Var(%d) is empty", n)
		}
		for _, tail := range tails {
			if got, k := impl.ReadVar(s + tail); got != n || k != len(s) {
				t.Errorf("ReadVar(%q) = %d, %d, want %d, %d", s+tail, got, k, n, len(s))
			}
		}
		for k := 0; k < len(s); k++ {
			if got, used := impl.ReadVar(s[:k]); got != 0 || used != 0 {
				t.Errorf("ReadVar(%q) = %d, %d of a text too short", s[:k], got, used)
			}
		}
	}
}

func TestReadVarTellsWhatVarMakes(t *testing.T) {
	var begun [256]bool
	for n := 0; n < 128; n++ {
		begun[impl.Var(n)[0]] = true
	}
	eachText("\x00\x01\x7f\x80\xff", 8, func(s string) {
		n, k := impl.ReadVar(s)
		if k == 0 {
			if n != 0 || s != "" && begun[s[0]] {
				t.Fatalf("ReadVar(%q) = %d, %d", s, n, k)
			}
			return
		}
		if k < 0 || k > len(s) || impl.Var(n) != s[:k] {
			t.Fatalf("ReadVar(%q) = %d, %d", s, n, k)
		}
	})
}

func TestReadVarRefuses(t *testing.T) {
	for _, s := range []string{
		"", "\x80", "\xff", "\xff\xff", // too short
		"\x80\x00", "\xff\x00", "\x80\x80\x00", "\xac\x82\x00", "\x80\x00z", // a needless byte
		"\xff\xff\xff\xff\xff\xff\x00", "\x80\x80\x80\x80\x80\x80\x00", // a needless seventh
		"\xff\xff\xff\xff\xff\xff\xff", "\x80\x80\x80\x80\x80\x80\x80",
		"\x80\x80\x80\x80\x80\x80\x80\x01", "\xff\xff\xff\xff\xff\xff\xff\x7f", // a byte too many
		"\xff\xff\xff\xff\xff\xff\xff\x00", "\x80\x80\x80\x80\x80\x80\x80\x80\x01",
		"\xff\xff\xff\xff\xff\xff\xff\xff\x7f", "\xff\xff\xff\xff\xff\xff\xff\xff\xff\x01",
		strings.Repeat("\x80", 10000) + "\x01",
	} {
		if n, k := impl.ReadVar(s); n != 0 || k != 0 {
			t.Errorf("ReadVar(%.20q) = %d, %d, want none", s, n, k)
		}
	}
}

func TestHex(t *testing.T) {
	for _, c := range []struct{ s, want string }{
		{"", ""}, {"\x00", "00"}, {"\x0f", "0f"}, {"\xf0", "f0"}, {"\x9a", "9a"}, {"a\xff", "61ff"}, {"\xc3\xa4", "c3a4"}, {"\x01\x23\x45\x67\x89\xab\xcd\xef", "0123456789abcdef"},
	} {
		if got := impl.Hex(c.s); got != c.want {
			t.Errorf("Hex(%q) = %q, want %q", c.s, got, c.want)
		}
	}
	all := ""
	for c := 0; c < 256; c++ {
		all += string([]byte{byte(c)})
	}
	for _, s := range []string{all, strings.Repeat(all, 40)} {
		if got := impl.Hex(s); got != hex.EncodeToString([]byte(s)) {
			t.Errorf("Hex of %d bytes is not right", len(s))
		}
		if got, ok := impl.Unhex(impl.Hex(s)); got != s || !ok {
			t.Errorf("Unhex of the Hex of %d bytes is not right", len(s))
		}
	}
}

func TestUnhexTellsWhatHexMakes(t *testing.T) {
	taken := 0
	for i := 0; i < 1<<16; i++ {
		s := string([]byte{byte(i >> 8), byte(i)})
		got, ok := impl.Unhex(s)
		if ok && impl.Hex(got) != s || !ok && got != "" {
			t.Fatalf("Unhex(%q) = %q, %v", s, got, ok)
		}
		if ok {
			taken++
		}
	}
	if taken != 256 {
		t.Errorf("Unhex takes %d texts of two bytes", taken)
	}
	eachText("09afAFg", 5, func(s string) {
		want := len(s)%2 == 0 && !strings.ContainsAny(s, "AFg")
		got, ok := impl.Unhex(s)
		if ok != want || ok && impl.Hex(got) != s || !ok && got != "" {
			t.Fatalf("Unhex(%q) = %q, %v", s, got, ok)
		}
	})
}

func TestUnhexRefuses(t *testing.T) {
	for _, s := range []string{
		"0", "a", "616", "61f", "61ff0", // an odd length
		"6F", "F6", "AB", "61fF", "A0", "0A", // great letters
		"0g", "g0", "0x61", " 61", "61 ", "6 1 ", "-1", "+1", "6161zz", "zz6161", "\x00\x00", "\xff\xff", "61/0", "61:0", "61`0", "61@0",
		strings.Repeat("0", 9999), strings.Repeat("0", 9999) + "G",
	} {
		if got, ok := impl.Unhex(s); got != "" || ok {
			t.Errorf("Unhex(%.20q) = %q, %v, want none", s, got, ok)
		}
	}
	if got, ok := impl.Unhex(""); got != "" || !ok {
		t.Errorf("Unhex of the empty text = %q, %v", got, ok)
	}
}

func TestDec(t *testing.T) {
	for _, c := range []struct {
		n    int
		want string
	}{
		{0, "0"}, {1, "1"}, {-1, "-1"}, {9, "9"}, {10, "10"}, {-10, "-10"}, {120, "120"}, {-120, "-120"},
		{999999999, "999999999"}, {1000000000, "1000000000"}, {-1000000000, "-1000000000"},
		{math.MaxInt, "9223372036854775807"}, {math.MinInt + 1, "-9223372036854775807"}, {math.MinInt, "-9223372036854775808"},
	} {
		if got := impl.Dec(c.n); got != c.want {
			t.Errorf("Dec(%d) = %q, want %q", c.n, got, c.want)
		}
	}
	for _, n := range edgesTo(math.MaxInt) {
		for _, m := range []int{n, -n} {
			if got := impl.Dec(m); got != big.NewInt(int64(m)).String() {
				t.Errorf("Dec(%d) = %q", m, got)
			}
		}
	}
}

func TestReadDecTakesBackWhatDecMakes(t *testing.T) {
	const greatest = 999999999
	for _, n := range edgesTo(math.MaxInt) {
		for _, m := range []int{n, -n} {
			got, ok := impl.ReadDec(impl.Dec(m))
			if n <= greatest && (got != m || !ok) || n > greatest && (got != 0 || ok) {
				t.Errorf("ReadDec(Dec(%d)) = %d, %v", m, got, ok)
			}
		}
	}
	for _, n := range []int{greatest, -greatest, greatest - 1, 1 - greatest, 100000000, -100000000} {
		if got, ok := impl.ReadDec(impl.Dec(n)); got != n || !ok {
			t.Errorf("ReadDec(Dec(%d)) = %d, %v", n, got, ok)
		}
	}
	for _, n := range []int{greatest + 1, -greatest - 1, math.MaxInt, math.MinInt} {
		if got, ok := impl.ReadDec(impl.Dec(n)); got != 0 || ok {
			t.Errorf("ReadDec(Dec(%d)) = %d, %v, want none", n, got, ok)
		}
	}
}

func TestReadDecTellsWhatDecMakes(t *testing.T) {
	right := regexp.MustCompile(`\A(0|-?[1-9][0-9]{0,8})\z`)
	eachText("-+0159_.ex \x00\xff", 4, func(s string) {
		n, ok := impl.ReadDec(s)
		if ok != right.MatchString(s) || ok && impl.Dec(n) != s || !ok && n != 0 {
			t.Fatalf("ReadDec(%q) = %d, %v", s, n, ok)
		}
	})
}

func TestReadDecRefuses(t *testing.T) {
	for _, s := range []string{
		"", "-", "--", "+", "-0", "00", "01", "-01", "+1", "+0", "-+1", "+-1", "--1", "1-", "000000001", "-000000001", "0000000001",
		" 1", "1 ", "1\n", "1\x00", "\x001", "1_0", "1.0", "1e3", "0x1", "0b1", "a", "\u0661", "\uff11",
		"1000000000", "-1000000000", "9999999999", "9223372036854775807", "-9223372036854775808", "9223372036854775808", "18446744073709551617",
		strings.Repeat("1", 10000), "-" + strings.Repeat("0", 10000),
	} {
		if n, ok := impl.ReadDec(s); n != 0 || ok {
			t.Errorf("ReadDec(%.20q) = %d, %v, want none", s, n, ok)
		}
	}
}
