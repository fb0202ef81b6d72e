package tests

import (
	"math"
	"math/big"
	"regexp"
	"strconv"
	"strings"
	"testing"

	"loop.example/g01407/impl"
)

// outOfRange are numbers that no operation may tell.
var outOfRange = []int{
	impl.MaxFix + 1, -impl.MaxFix - 1, impl.MaxFix + 2, -impl.MaxFix - 2, 1 << 32, -1 << 32, 1<<32 + 5, -1<<32 - 5,
	1 << 47, -1 << 47, 1 << 62, -1 << 62, math.MaxInt - 1, math.MinInt + 1, math.MaxInt, math.MinInt,
}

// fixEdges are numbers in the range: its ends, nought, One, and those close by each power of two.
func fixEdges() []int {
	l := []int{3 * impl.One / 2, -3 * impl.One / 2, 300 * impl.One, -300 * impl.One, impl.MaxFix - 1, 1 - impl.MaxFix}
	for _, n := range edgesTo(impl.MaxFix) {
		l = append(l, n, -n)
	}
	return l
}

// bigInto takes x into the range, and says whether it was out of it.
func bigInto(x *big.Int) (int, bool) {
	most := big.NewInt(impl.MaxFix)
	if x.CmpAbs(most) <= 0 {
		return int(x.Int64()), false
	}
	return impl.MaxFix * x.Sign(), true
}

// bigOf is a as it is handed in: taken into the range.
func bigOf(a int) *big.Int {
	n, _ := bigInto(big.NewInt(int64(a)))
	return big.NewInt(int64(n))
}

type fixOp struct {
	name string
	do   func(a, b int) (int, bool)
	want func(a, b *big.Int) *big.Int
}

var fixOps = []fixOp{
	{"FixAdd", impl.FixAdd, func(a, b *big.Int) *big.Int { return new(big.Int).Add(a, b) }},
	{"FixSub", impl.FixSub, func(a, b *big.Int) *big.Int { return new(big.Int).Sub(a, b) }},
	{"FixMul", impl.FixMul, func(a, b *big.Int) *big.Int {
		// Div rounds down, as the divisor is above 0.
		p := new(big.Int).Mul(a, b)
		return p.Div(p, big.NewInt(impl.One))
	}},
}

type fixCase struct {
	a, b, want int
	out        bool
}

func checkFix(t *testing.T, name string, do func(a, b int) (int, bool), l []fixCase) {
	t.Helper()
	for _, c := range l {
		if got, out := do(c.a, c.b); got != c.want || out != c.out {
			t.Errorf("%s(%d, %d) = %d, %v, want %d, %v", name, c.a, c.b, got, out, c.want, c.out)
		}
	}
}

const (
	one  = impl.One
	most = impl.MaxFix
)

func TestFixConstants(t *testing.T) {
	if one != 1<<16 || most != 1<<31-1 {
		t.Errorf("One = %d, MaxFix = %d", one, most)
	}
}

func TestFixOk(t *testing.T) {
	for _, x := range fixEdges() {
		if !impl.FixOk(x) {
			t.Errorf("FixOk(%d) is false", x)
		}
	}
	for _, x := range []int{0, 1, -1, most, -most, most - 1, 1 - most} {
		if !impl.FixOk(x) {
			t.Errorf("FixOk(%d) is false", x)
		}
	}
	for _, x := range outOfRange {
		if impl.FixOk(x) {
			t.Errorf("FixOk(%d) is true", x)
		}
	}
}

func TestFixAdd(t *testing.T) {
	checkFix(t, "FixAdd", impl.FixAdd, []fixCase{
		{0, 0, 0, false}, {1, 2, 3, false}, {one, -3 * one, -2 * one, false}, {5, -5, 0, false},
		{most, 0, most, false}, {most - 1, 1, most, false}, {most, 1, most, true}, {most, most, most, true}, {most, -most, 0, false},
		{-most, 0, -most, false}, {1 - most, -1, -most, false}, {-most, -1, -most, true}, {-most, -most, -most, true},
		{1 << 30, 1<<30 - 1, most, false}, {1 << 30, 1 << 30, most, true}, {-1 << 30, 1 - 1<<30, -most, false}, {-1 << 30, -1 << 30, -most, true},
		// What is handed in is taken into the range first, which is not told.
		{most + 1, 0, most, false}, {most + 1, -1, most - 1, false}, {most + 1, 1, most, true}, {math.MaxInt, 0, most, false},
		{-most - 1, 0, -most, false}, {-most - 1, 1, 1 - most, false}, {-most - 1, -1, -most, true}, {math.MinInt, 0, -most, false},
		{math.MaxInt, math.MinInt, 0, false}, {math.MaxInt, math.MaxInt, most, true}, {math.MinInt, math.MinInt, -most, true},
		{math.MaxInt, -most, 0, false}, {1 << 32, -5, most - 5, false},
	})
}

func TestFixSub(t *testing.T) {
	checkFix(t, "FixSub", impl.FixSub, []fixCase{
		{0, 0, 0, false}, {1, 3, -2, false}, {3, 1, 2, false}, {one, -3 * one, 4 * one, false}, {-5, -5, 0, false},
		{0, most, -most, false}, {0, -most, most, false}, {most, most, 0, false}, {-most, -most, 0, false},
		{-1, most, -most, true}, {-1, most - 1, -most, false}, {1, -most, most, true}, {1, 1 - most, most, false},
		{-most, 1, -most, true}, {most, -1, most, true}, {most, -most, most, true}, {-most, most, -most, true},
		{most + 1, 1, most - 1, false}, {most + 1, 0, most, false}, {most + 1, -1, most, true},
		{-most - 1, -1, 1 - most, false}, {-most - 1, 0, -most, false}, {-most - 1, 1, -most, true},
		{0, math.MinInt, most, false}, {1, math.MinInt, most, true}, {-1, math.MinInt, most - 1, false}, {0, math.MaxInt, -most, false},
		{math.MinInt, math.MinInt, 0, false}, {math.MaxInt, math.MaxInt, 0, false},
		{math.MaxInt, math.MinInt, most, true}, {math.MinInt, math.MaxInt, -most, true},
	})
}

func TestFixMul(t *testing.T) {
	checkFix(t, "FixMul", impl.FixMul, []fixCase{
		{0, 0, 0, false}, {0, -5, 0, false}, {one, one, one, false}, {-one, one, -one, false}, {-one, -one, one, false},
		{3 * one / 2, 2 * one, 3 * one, false}, {3 * one / 2, 3 * one / 2, 9 * one / 4, false}, {one / 2, -one / 2, -one / 4, false},
		// Rounded down, on both sides of nought.
		{1, 1, 0, false}, {-1, -1, 0, false}, {1, -1, -1, false}, {-1, 1, -1, false}, {1, one - 1, 0, false}, {-1, one - 1, -1, false},
		{1, 1 - one, -1, false}, {-1, one + 1, -2, false}, {1, one + 1, 1, false}, {-1, one, -1, false}, {-3, one / 2, -2, false}, {3, one / 2, 1, false},
		{0, most, 0, false}, {0, math.MinInt, 0, false}, {1, most, 32767, false}, {1, -most, -32768, false}, {-1, most, -32768, false}, {-1, -most, 32767, false},
		{most, one, most, false}, {-most, one, -most, false}, {most, -one, -most, false}, {-most, -one, most, false},
		{most, one - 1, most - 32768, false}, {-most, one - 1, 32767 - most, false},
		// The product just in the range, and the one just out of it.
		{128 * one, 256*one - 1, most - 127, false}, {128 * one, 256 * one, most, true},
		{53 * one, 40517559, 2147430627, false},
		{128 * one, -256 * one, -most, true}, {-128 * one, 256 * one, -most, true}, {-128 * one, -256 * one, most, true},
		{128 * one, 1 - 256*one, 128 - 128*256*one, false},
		{most, one + 1, most, true}, {-most, one + 1, -most, true}, {most, -one - 1, -most, true}, {-most, -one - 1, most, true},
		{300 * one, 300 * one, most, true}, {300 * one, -300 * one, -most, true}, {most, most, most, true}, {-most, -most, most, true}, {most, -most, -most, true},
		// What is handed in is taken into the range first, which is not told.
		{most + 1, one, most, false}, {-most - 1, one, -most, false}, {most + 1, -one, -most, false}, {most + 1, one / 2, most / 2, false},
		{math.MaxInt, one, most, false}, {math.MinInt, one, -most, false}, {math.MinInt, -one, most, false}, {math.MinInt, 1, -32768, false}, {math.MaxInt, -1, -32768, false},
		{math.MinInt, math.MinInt, most, true}, {math.MaxInt, math.MaxInt, most, true}, {math.MinInt, math.MaxInt, -most, true}, {math.MaxInt, math.MinInt, -most, true},
		{most + 1, most + 1, most, true}, {most + 1, -most - 1, -most, true}, {1 << 32, 1 << 32, most, true}, {1 << 62, 4, 131071, false},
	})
}

// The least and the greatest products that are in the range, by factors that are in it.
func TestFixMulAtTheEnds(t *testing.T) {
	checkFix(t, "FixMul", impl.FixMul, []fixCase{
		{2351 * 4513, 13264529, most, false},   // 2^47 - 1
		{1 << 23, 1 << 24, most, true},         // 2^47
		{most, -one, -most, false},             // -MaxFix ones
		{23 * 1073353, -5700847, -most, true},  // one One-th of a One-th less: rounded down out of the range
		{14181 * 5881, -1687531, -most, false}, // and one more: rounded down to its end
		{-23 * 1073353, 5700847, -most, true},  // the same with the other sign
		{-14181 * 5881, 1687531, -most, false},
		{-2351 * 4513, -13264529, most, false},
		{-23 * 1073353, -5700847, most, false}, // above nought it is MaxFix and a bit
		{2351 * 4513, -13264529, -most, true},
		{-(1 << 23), 1 << 24, -most, true},
		{-(1 << 23), -(1 << 24), most, true},
	})
	for _, a := range []int{one + 1, one + 3, 2*one + 7, 12345677, 99999989, 1<<30 + 1, most} {
		high := (1<<47 - 1) / a // a times it is the greatest product in the range
		low := most * one / a   // and -a times it the least one
		down := -((a*low + one - 1) / one)
		checkFix(t, "FixMul", impl.FixMul, []fixCase{
			{a, high, a * high / one, false}, {-a, -high, a * high / one, false}, {a, high + 1, most, true}, {-a, -high - 1, most, true},
			{a, -low, down, false}, {-a, low, down, false}, {a, -low - 1, -most, true}, {-a, low + 1, -most, true},
		})
	}
}

func TestFixOperationsStayInRangeAndTurnAbout(t *testing.T) {
	l := append(fixEdges(), outOfRange...)
	for _, op := range fixOps {
		for _, a := range l {
			for _, b := range l {
				got, out := op.do(a, b)
				want, wantOut := bigInto(op.want(bigOf(a), bigOf(b)))
				if got != want || out != wantOut {
					t.Fatalf("%s(%d, %d) = %d, %v, want %d, %v", op.name, a, b, got, out, want, wantOut)
				}
				if got < -most || got > most {
					t.Fatalf("%s(%d, %d) = %d", op.name, a, b, got)
				}
				if op.name == "FixSub" {
					continue
				}
				if again, outAgain := op.do(b, a); again != got || outAgain != out {
					t.Fatalf("%s(%d, %d) = %d, %v, but turned about %d, %v", op.name, a, b, got, out, again, outAgain)
				}
			}
		}
	}
}

func TestOneIsOne(t *testing.T) {
	for _, a := range fixEdges() {
		checkFix(t, "FixMul", impl.FixMul, []fixCase{{a, one, a, false}, {one, a, a, false}, {a, -one, -a, false}, {a, 0, 0, false}})
		checkFix(t, "FixAdd", impl.FixAdd, []fixCase{{a, 0, a, false}, {0, a, a, false}, {a, -a, 0, false}})
		checkFix(t, "FixSub", impl.FixSub, []fixCase{{a, 0, a, false}, {0, a, -a, false}, {a, a, 0, false}})
	}
}

func TestFixNegAndRelu(t *testing.T) {
	for _, c := range []struct{ a, neg, relu int }{
		{0, 0, 0}, {1, -1, 1}, {-1, 1, 0}, {5, -5, 5}, {-3, 3, 0}, {one, -one, one}, {-one, one, 0},
		{most, -most, most}, {-most, most, 0}, {most - 1, 1 - most, most - 1}, {1 - most, most - 1, 0},
		{most + 1, -most, most}, {-most - 1, most, 0}, {1 << 32, -most, most}, {-1 << 32, most, 0},
		{math.MaxInt, -most, most}, {math.MinInt, most, 0}, {math.MinInt + 1, most, 0},
	} {
		if got := impl.FixNeg(c.a); got != c.neg {
			t.Errorf("FixNeg(%d) = %d, want %d", c.a, got, c.neg)
		}
		if got := impl.Relu(c.a); got != c.relu {
			t.Errorf("Relu(%d) = %d, want %d", c.a, got, c.relu)
		}
	}
	for _, a := range append(fixEdges(), outOfRange...) {
		want, _ := bigInto(big.NewInt(int64(a)))
		if got := impl.FixNeg(a); got != -want || got < -most || got > most {
			t.Errorf("FixNeg(%d) = %d", a, got)
		}
		if got := impl.Relu(a); got != max(want, 0) {
			t.Errorf("Relu(%d) = %d", a, got)
		}
	}
}

func TestShowFix(t *testing.T) {
	for _, c := range []struct {
		a    int
		want string
	}{
		{0, "0+0"}, {1, "0+1"}, {-1, "-0+1"}, {-5, "-0+5"}, {one - 1, "0+65535"}, {1 - one, "-0+65535"}, {one, "1+0"}, {-one, "-1+0"},
		{one + 1, "1+1"}, {-one - 1, "-1+1"}, {3 * one / 2, "1+32768"}, {-3 * one / 2, "-1+32768"}, {10 * one, "10+0"}, {-10*one - 10, "-10+10"},
		{32767 * one, "32767+0"}, {most, "32767+65535"}, {-most, "-32767+65535"}, {most - 1, "32767+65534"}, {1 - most, "-32767+65534"},
	} {
		if got := impl.ShowFix(c.a); got != c.want {
			t.Errorf("ShowFix(%d) = %q, want %q", c.a, got, c.want)
		}
	}
	for _, a := range outOfRange {
		if got := impl.ShowFix(a); got != "" {
			t.Errorf("ShowFix(%d) = %q, want none", a, got)
		}
	}
}

func TestReadFixTakesBackWhatShowFixMakes(t *testing.T) {
	l := fixEdges()
	for n := -one - 2; n <= one+2; n++ {
		l = append(l, n)
	}
	for _, n := range l {
		s := impl.ShowFix(n)
		if got, ok := impl.ReadFix(s); got != n || !ok {
			t.Fatalf("ReadFix(%q) = %d, %v, want %d", s, got, ok, n)
		}
		for _, other := range []string{s + "\x00", s + " ", s + "+", s + "+0", "+" + s, " " + s, "0" + s, s[:len(s)-1] + "x", strings.Replace(s, "+", "", 1), strings.Replace(s, "+", "+-", 1)} {
			if got, ok := impl.ReadFix(other); got != 0 || ok {
				t.Fatalf("ReadFix(%q) = %d, %v, want none", other, got, ok)
			}
		}
	}
}

var fixText = regexp.MustCompile(`\A(-?)(0|[1-9][0-9]{0,4})\+(0|[1-9][0-9]{0,4})\z`)

// fixOfText is the number of which s is the text, found by the shape that the document names.
func fixOfText(s string) (int, bool) {
	m := fixText.FindStringSubmatch(s)
	if m == nil || s == "-0+0" {
		return 0, false
	}
	whole, _ := strconv.Atoi(m[2])
	part, _ := strconv.Atoi(m[3])
	if whole > 32767 || part > 65535 {
		return 0, false
	}
	if m[1] != "" {
		return -(whole*one + part), true
	}
	return whole*one + part, true
}

func checkReadFix(t *testing.T, s string) {
	t.Helper()
	want, wantOk := fixOfText(s)
	got, ok := impl.ReadFix(s)
	if got != want || ok != wantOk || ok && impl.ShowFix(got) != s {
		t.Fatalf("ReadFix(%.40q) = %d, %v, want %d, %v", s, got, ok, want, wantOk)
	}
}

func TestReadFixTellsWhatShowFixMakes(t *testing.T) {
	eachText("-+06", 8, func(s string) { checkReadFix(t, s) })
	eachText("-+019_.e \x00\xff", 5, func(s string) { checkReadFix(t, s) })
	digits := []string{
		"", "0", "00", "01", "1", "9", "10", "007", "32766", "32767", "32768", "32769", "65534", "65535", "65536", "65537", "99999", "100000", "032767",
		"131071", "2147483647", "2147483648", "999999999", "1000000000", "4294967296", "9223372036854775807", "9223372036854775808", "18446744073709551616",
		"281474976710656", "-1", "-0", "+0", "+1", " 1", "1 ", "0x1", "1_0", "\u0661",
	}
	for _, whole := range digits {
		for _, part := range digits {
			for _, sign := range []string{"", "-", "--", "+", "-+"} {
				for _, point := range []string{"+", "", "-", "++", ".", " + "} {
					checkReadFix(t, sign+whole+point+part)
				}
			}
		}
	}
}

func TestReadFixRefuses(t *testing.T) {
	for _, s := range []string{
		"", "+", "-", "-+", "0", "1", "-1", "65536", // no +, or nothing else
		"+1", "+0", "-+1", "1+", "-1+", "0+", // no digits ahead of or behind it
		"00+0", "01+0", "-01+0", "0+00", "0+01", "1+065535", "000000000+0", // needless noughts
		"0+65536", "1+65536", "-0+65536", "32766+65536", "0+99999", "0+999999999", "0+4294967296", // a part of One or more
		"1+-1", "0+-1", "-1+-1", "1+-0", "2+-65536", "1++1", "1+ 1", // a sign behind it
		"-0+0", "--1+0", "--0+1", "+1+0", "- 1+0",
		"1+0+0", "1+0 ", "1+0\n", "1+0\x00", "1+1+", " 1+0", "1 +0", "1.0", "1+0x", "0x1+0",
		"32768+0", "-32768+0", "32767+65536", "-32767+65536", "99999+0", "999999999+0", "1000000000+0", "281474976710656+1", "9223372036854775807+0",
		strings.Repeat("1", 10000) + "+0", "1+" + strings.Repeat("0", 10000), strings.Repeat("+", 10000), strings.Repeat("1+0", 10000),
	} {
		if n, ok := impl.ReadFix(s); n != 0 || ok {
			t.Errorf("ReadFix(%.20q) = %d, %v, want none", s, n, ok)
		}
	}
}
