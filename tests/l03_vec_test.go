package tests

import (
	"math"
	"math/big"
	"slices"
	"testing"

	"loop.example/g01407/impl"
)

// rowNumbers are numbers of which the rows of the tests are made: some of any two run over, by each operation.
var rowNumbers = []int{0, 1, -1, one, -one, one + 1, 3 * one / 2, -5, 200 * one, -200 * one, most, -most, most - 1, 1 - most, 1 << 30, -1 << 30}

// rowsOf makes many right rows with so many numbers; each of rowNumbers comes at each place.
func rowsOf(size int) [][]int {
	var rows [][]int
	for first := range rowNumbers {
		for _, by := range []int{0, 1, 3, 7, 10} {
			row := make([]int, size)
			for i := range row {
				row[i] = rowNumbers[(first+i*by)%len(rowNumbers)]
			}
			rows = append(rows, row)
		}
	}
	return rows
}

// eachTwoRows calls f with every two of the rows that have as many numbers.
func eachTwoRows(f func(a, b []int)) {
	for size := 1; size <= impl.MaxDim; size++ {
		rows := rowsOf(size)
		for _, a := range rows {
			for _, b := range rows {
				f(a, b)
			}
		}
	}
}

// wrongRows are rows that are not right: too short, too long, or with a number out of the range at some place.
func wrongRows() [][]int {
	rows := [][]int{nil, {}, make([]int, 0, 9), make([]int, impl.MaxDim+1), {one, one, one, one, one, one, one}, make([]int, 64), make([]int, 100000)}
	for size := 1; size <= impl.MaxDim; size++ {
		for at := range size {
			for _, n := range outOfRange {
				row := slices.Repeat([]int{one}, size)
				row[at] = n
				rows = append(rows, row)
			}
		}
	}
	return rows
}

// twoRowOp is an operation on two rows, told as a row and a mark.
type twoRowOp struct {
	name string
	do   func(a, b []int) ([]int, bool)
	// want tells one number of the answer.
	want func(x, y int) (int, bool)
}

var twoRowOps = []twoRowOp{
	{"VecAdd", impl.VecAdd, func(x, y int) (int, bool) { return bigInto(big.NewInt(int64(x) + int64(y))) }},
	{"VecSub", impl.VecSub, func(x, y int) (int, bool) { return bigInto(big.NewInt(int64(x) - int64(y))) }},
	{"VecMask", func(x, d []int) ([]int, bool) { return impl.VecMask(x, d), false }, func(x, d int) (int, bool) {
		if x <= 0 {
			return 0, false
		}
		return d, false
	}},
	{"VecRelu of the first", func(a, _ []int) ([]int, bool) { return impl.VecRelu(a), false }, func(x, _ int) (int, bool) { return max(x, 0), false }},
	{"VecScale by the first of the second", func(a, b []int) ([]int, bool) { return impl.VecScale(b[0], a) }, nil},
}

// wantRow is what an operation makes of two right rows.
func wantRow(op twoRowOp, a, b []int) ([]int, bool) {
	row, marked := make([]int, len(a)), false
	for i := range a {
		want, y := op.want, b[i]
		if want == nil {
			want, y = impl.FixMul, b[0]
		}
		var out bool
		row[i], out = want(a[i], y)
		marked = marked || out
	}
	return row, marked
}

type rowCase struct {
	a, b, want []int
	out        bool
}

func checkRows(t *testing.T, name string, do func(a, b []int) ([]int, bool), l []rowCase) {
	t.Helper()
	for _, c := range l {
		if got, out := do(c.a, c.b); !slices.Equal(got, c.want) || out != c.out {
			t.Errorf("%s(%v, %v) = %v, %v, want %v, %v", name, c.a, c.b, got, out, c.want, c.out)
		}
	}
}

func TestMaxDim(t *testing.T) {
	if impl.MaxDim != 6 {
		t.Errorf("MaxDim = %d", impl.MaxDim)
	}
}

func TestVecOk(t *testing.T) {
	for size := 1; size <= impl.MaxDim; size++ {
		for _, row := range rowsOf(size) {
			if !impl.VecOk(row) {
				t.Errorf("VecOk(%v) is false", row)
			}
		}
	}
	for _, row := range [][]int{{0}, {most}, {-most}, {1, 2, 3, 4, 5, 6}, {0, 0, 0, 0, 0, most}, {-most, most, -most, most, -most, most}, make([]int, 6, 7)} {
		if !impl.VecOk(row) {
			t.Errorf("VecOk(%v) is false", row)
		}
	}
	for _, row := range wrongRows() {
		if impl.VecOk(row) {
			t.Errorf("VecOk(%.40v) is true", row)
		}
	}
}

func TestVecAdd(t *testing.T) {
	checkRows(t, "VecAdd", impl.VecAdd, []rowCase{
		{[]int{1}, []int{2}, []int{3}, false},
		{[]int{0}, []int{0}, []int{0}, false},
		{[]int{1, 2, 3}, []int{10, -20, 30}, []int{11, -18, 33}, false},
		{[]int{1, 2, 3, 4, 5, 6}, []int{6, 5, 4, 3, 2, 1}, []int{7, 7, 7, 7, 7, 7}, false},
		{[]int{most}, []int{0}, []int{most}, false},
		{[]int{most - 1}, []int{1}, []int{most}, false},
		{[]int{most}, []int{1}, []int{most}, true},
		{[]int{-most}, []int{-1}, []int{-most}, true},
		{[]int{1 - most}, []int{-1}, []int{-most}, false},
		{[]int{most, 0}, []int{1, 5}, []int{most, 5}, true},
		{[]int{0, most}, []int{5, 1}, []int{5, most}, true},
		{[]int{1, -most, 3}, []int{1, -most, 3}, []int{2, -most, 6}, true},
		{[]int{most, -most}, []int{-most, most}, []int{0, 0}, false},
		{[]int{most, -most}, []int{most, -most}, []int{most, -most}, true},
	})
}

func TestVecSub(t *testing.T) {
	checkRows(t, "VecSub", impl.VecSub, []rowCase{
		{[]int{1}, []int{3}, []int{-2}, false},
		{[]int{1, 2, 3}, []int{10, -20, 3}, []int{-9, 22, 0}, false},
		{[]int{1, 2, 3, 4, 5, 6}, []int{6, 5, 4, 3, 2, 1}, []int{-5, -3, -1, 1, 3, 5}, false},
		{[]int{0}, []int{most}, []int{-most}, false},
		{[]int{-1}, []int{most}, []int{-most}, true},
		{[]int{0}, []int{-most}, []int{most}, false},
		{[]int{1}, []int{-most}, []int{most}, true},
		{[]int{5, -1}, []int{3, most}, []int{2, -most}, true},
		{[]int{-1, 5}, []int{most, 3}, []int{-most, 2}, true},
		{[]int{most, -most}, []int{most, -most}, []int{0, 0}, false},
	})
}

func TestVecScale(t *testing.T) {
	for _, c := range []struct {
		c       int
		a, want []int
		out     bool
	}{
		{one, []int{5}, []int{5}, false},
		{2 * one, []int{1, -2, 3 * one}, []int{2, -4, 6 * one}, false},
		{-one, []int{1, -2, 3, -4, 5, -6}, []int{-1, 2, -3, 4, -5, 6}, false},
		{0, []int{most, -most}, []int{0, 0}, false},
		{1, []int{-1, 1, one}, []int{-1, 0, 1}, false},
		{most, []int{one, 0, 1, -1}, []int{most, 0, 32767, -32768}, false},
		{-most, []int{one, 0, 1, -1}, []int{-most, 0, -32768, 32767}, false},
		{most, []int{one + 1}, []int{most}, true},
		{-most, []int{1, 2, one + 1}, []int{-32768, -65536, -most}, true},
		{one + 1, []int{most, 1}, []int{most, 1}, true},
		{300 * one, []int{1, -300 * one, 0}, []int{300, -most, 0}, true},
	} {
		if got, out := impl.VecScale(c.c, c.a); !slices.Equal(got, c.want) || out != c.out {
			t.Errorf("VecScale(%d, %v) = %v, %v, want %v, %v", c.c, c.a, got, out, c.want, c.out)
		}
	}
}

func TestVecScaleAsksWhetherTheNumberIsInTheRange(t *testing.T) {
	for _, c := range outOfRange {
		for _, a := range [][]int{{0}, {1}, {one, one}, {most}, {1, 2, 3, 4, 5, 6}, nil, {c}} {
			if got, out := impl.VecScale(c, a); len(got) != 0 || out {
				t.Errorf("VecScale(%d, %v) = %v, %v, want none", c, a, got, out)
			}
		}
	}
	for _, c := range fixEdges() {
		want, wantOut := impl.FixMul(c, one+1)
		if got, out := impl.VecScale(c, []int{one + 1}); !slices.Equal(got, []int{want}) || out != wantOut {
			t.Errorf("VecScale(%d, One and 1) = %v, %v, want %v, %v", c, got, out, want, wantOut)
		}
		for _, a := range [][]int{nil, {}, {most + 1}, make([]int, impl.MaxDim+1)} {
			if got, out := impl.VecScale(c, a); len(got) != 0 || out {
				t.Errorf("VecScale(%d, %v) = %v, %v, want none", c, a, got, out)
			}
		}
	}
}

func TestVecDot(t *testing.T) {
	for _, c := range []struct {
		a, b []int
		want int
		out  bool
	}{
		{[]int{0}, []int{0}, 0, false},
		{[]int{2 * one}, []int{3 * one}, 6 * one, false},
		{[]int{one, 2 * one, 3 * one}, []int{4 * one, -5 * one, 6 * one}, 12 * one, false},
		{[]int{one, one, one, one, one, one}, []int{1, 2, 3, 4, 5, 6}, 21, false},
		// Each product is rounded down by itself.
		{[]int{1, 1}, []int{one / 2, one / 2}, 0, false},
		{[]int{-1, -1}, []int{one / 2, one / 2}, -2, false},
		{[]int{1, -1}, []int{1, 1}, -1, false},
		// Just in the range, and just out of it.
		{[]int{most}, []int{one}, most, false},
		{[]int{-most}, []int{one}, -most, false},
		{[]int{most}, []int{one + 1}, most, true},
		{[]int{most - 1, 1}, []int{one, one}, most, false},
		{[]int{most, 1}, []int{one, one}, most, true},
		{[]int{1, most}, []int{one, one}, most, true},
		{[]int{-most, -1}, []int{one, one}, -most, true},
		{[]int{1 - most, -1}, []int{one, one}, -most, false},
		// What runs over on the way is seen, though all together would be in the range.
		{[]int{most, 5, -5}, []int{one, one, one}, most - 5, true},
		{[]int{most, -5, 5}, []int{one, one, one}, most, false},
		{[]int{-5, most, 5}, []int{one, one, one}, most, false},
		{[]int{5, most, -5}, []int{one, one, one}, most - 5, true},
		{[]int{-5, 5, most}, []int{one, one, one}, most, false},
		{[]int{most, most, -most, -most}, []int{one, one, one, one}, -most, true},
		{[]int{most, -most, most, -most}, []int{one, one, one, one}, 0, false},
		{[]int{-most, -most, most}, []int{one, one, one}, 0, true},
		// A product that runs over counts as the end of the range; the sum need not run over.
		{[]int{300 * one, one}, []int{300 * one, -most}, 0, true},
		{[]int{one, 300 * one}, []int{-most, 300 * one}, 0, true},
		{[]int{300 * one, 300 * one}, []int{300 * one, -300 * one}, 0, true},
		{[]int{1, 1, 1, 1, 1, 300 * one}, []int{one, one, one, one, -4 * one, 300 * one}, most, true},
	} {
		if got, out := impl.VecDot(c.a, c.b); got != c.want || out != c.out {
			t.Errorf("VecDot(%v, %v) = %d, %v, want %d, %v", c.a, c.b, got, out, c.want, c.out)
		}
	}
}

func TestVecReluAndVecMask(t *testing.T) {
	for _, c := range []struct{ a, want []int }{
		{[]int{0}, []int{0}}, {[]int{1}, []int{1}}, {[]int{-1}, []int{0}}, {[]int{most}, []int{most}}, {[]int{-most}, []int{0}},
		{[]int{1, -2, 0, 4, -5, 6}, []int{1, 0, 0, 4, 0, 6}},
	} {
		if got := impl.VecRelu(c.a); !slices.Equal(got, c.want) {
			t.Errorf("VecRelu(%v) = %v, want %v", c.a, got, c.want)
		}
	}
	for _, c := range []struct{ x, d, want []int }{
		{[]int{0}, []int{7}, []int{0}}, {[]int{1}, []int{7}, []int{7}}, {[]int{-1}, []int{7}, []int{0}},
		{[]int{1}, []int{-7}, []int{-7}}, {[]int{0}, []int{-7}, []int{0}}, {[]int{most}, []int{-most}, []int{-most}}, {[]int{-most}, []int{most}, []int{0}},
		{[]int{1, 0, -1, 2, 0, -2}, []int{-1, -2, -3, 4, 5, 6}, []int{-1, 0, 0, 4, 0, 0}},
		{[]int{5, 5}, []int{0, 3}, []int{0, 3}},
	} {
		if got := impl.VecMask(c.x, c.d); !slices.Equal(got, c.want) {
			t.Errorf("VecMask(%v, %v) = %v, want %v", c.x, c.d, got, c.want)
		}
	}
}

func TestRowsGoOneByOne(t *testing.T) {
	for _, op := range twoRowOps {
		eachTwoRows(func(a, b []int) {
			want, wantOut := wantRow(op, a, b)
			if got, out := op.do(a, b); !slices.Equal(got, want) || out != wantOut {
				t.Fatalf("%s: of %v and %v came %v, %v, want %v, %v", op.name, a, b, got, out, want, wantOut)
			}
		})
	}
}

func TestVecAddAndVecSubAreFixAddAndFixSubAtEachPlace(t *testing.T) {
	for _, x := range rowNumbers {
		for _, y := range rowNumbers {
			for at := range impl.MaxDim {
				a, b := slices.Repeat([]int{3}, impl.MaxDim), slices.Repeat([]int{5}, impl.MaxDim)
				a[at], b[at] = x, y
				// The other places are in the range, so that the mark tells of this one alone.
				sum, sumOut := impl.FixAdd(x, y)
				if got, out := impl.VecAdd(a, b); len(got) != len(a) || got[at] != sum || out != sumOut {
					t.Fatalf("VecAdd(%v, %v) = %v, %v, want %d at %d, %v", a, b, got, out, sum, at, sumOut)
				}
				less, lessOut := impl.FixSub(x, y)
				if got, out := impl.VecSub(a, b); len(got) != len(a) || got[at] != less || out != lessOut {
					t.Fatalf("VecSub(%v, %v) = %v, %v, want %d at %d, %v", a, b, got, out, less, at, lessOut)
				}
			}
		}
	}
}

func TestVecDotAddsFromTheLeftAndMayBeTurnedAbout(t *testing.T) {
	eachTwoRows(func(a, b []int) {
		want, wantOut := 0, false
		for i := range a {
			p := big.NewInt(int64(a[i]) * int64(b[i]))
			product, out := bigInto(p.Div(p, big.NewInt(one)))
			sum, over := bigInto(big.NewInt(int64(want) + int64(product)))
			want, wantOut = sum, wantOut || out || over
		}
		if got, out := impl.VecDot(a, b); got != want || out != wantOut {
			t.Fatalf("VecDot(%v, %v) = %d, %v, want %d, %v", a, b, got, out, want, wantOut)
		}
		if got, out := impl.VecDot(b, a); got != want || out != wantOut {
			t.Fatalf("VecDot(%v, %v) = %d, %v, but turned about %d, %v", b, a, got, out, want, wantOut)
		}
	})
}

func TestWhatIsMaskedIsThereOrNought(t *testing.T) {
	eachTwoRows(func(x, d []int) {
		got := impl.VecMask(x, d)
		if len(got) != len(d) {
			t.Fatalf("VecMask(%v, %v) = %v", x, d, got)
		}
		for i, n := range got {
			if n != d[i] && n != 0 {
				t.Fatalf("VecMask(%v, %v) = %v at %d", x, d, got, i)
			}
		}
		if relu := impl.VecRelu(d); !slices.Equal(relu, impl.VecMask(d, d)) {
			t.Fatalf("VecRelu(%v) = %v, which is not d masked by itself", d, relu)
		}
	})
}

// checkNoRows says where two rows of which no operation makes anything come to something.
func checkNoRows(t *testing.T, a, b []int) {
	t.Helper()
	for name, do := range map[string]func(a, b []int) ([]int, bool){"VecAdd": impl.VecAdd, "VecSub": impl.VecSub} {
		if got, out := do(a, b); len(got) != 0 || out {
			t.Errorf("%s(%.40v, %.40v) = %v, %v, want none", name, a, b, got, out)
		}
	}
	if got, out := impl.VecDot(a, b); got != 0 || out {
		t.Errorf("VecDot(%.40v, %.40v) = %v, %v, want none", a, b, got, out)
	}
	if got := impl.VecMask(a, b); len(got) != 0 {
		t.Errorf("VecMask(%.40v, %.40v) = %v, want none", a, b, got)
	}
}

func TestRowsThatAreNotRight(t *testing.T) {
	for _, wrong := range wrongRows() {
		for _, c := range []int{0, 1, one, 2 * one, most} {
			if got, out := impl.VecScale(c, wrong); len(got) != 0 || out {
				t.Errorf("VecScale(%d, %.40v) = %v, %v, want none", c, wrong, got, out)
			}
		}
		if got := impl.VecRelu(wrong); len(got) != 0 {
			t.Errorf("VecRelu(%.40v) = %v, want none", wrong, got)
		}
		checkNoRows(t, wrong, wrong)
		checkNoRows(t, wrong, nil)
		checkNoRows(t, nil, wrong)
		for _, n := range []int{0, -1, most} {
			// As many as the wrong one has, so that this alone is why.
			right := slices.Repeat([]int{n}, min(max(len(wrong), 1), impl.MaxDim))
			checkNoRows(t, wrong, right)
			checkNoRows(t, right, wrong)
		}
	}
}

func TestRowsOfWhichOneIsLonger(t *testing.T) {
	for short := 1; short <= impl.MaxDim; short++ {
		for long := short + 1; long <= impl.MaxDim+1; long++ {
			for _, n := range []int{0, 1, one, most, -most} {
				a, b := slices.Repeat([]int{n}, short), slices.Repeat([]int{n}, long)
				checkNoRows(t, a, b)
				checkNoRows(t, b, a)
				// What stands behind its end is no part of a row.
				checkNoRows(t, b[:short], b)
				checkNoRows(t, b, b[:short])
			}
		}
	}
}

func TestSameVec(t *testing.T) {
	for _, c := range []struct {
		a, b []int
		want bool
	}{
		{nil, nil, true}, {nil, []int{}, true}, {[]int{}, nil, true}, {[]int{}, []int{}, true}, {make([]int, 0, 4), nil, true},
		{nil, []int{0}, false}, {[]int{0}, nil, false}, {[]int{}, []int{0}, false}, {[]int{0}, []int{}, false},
		{[]int{0}, []int{0}, true}, {[]int{1}, []int{0}, false}, {[]int{1}, []int{-1}, false},
		{[]int{1, 2}, []int{1, 2}, true}, {[]int{1, 2}, []int{2, 1}, false}, {[]int{1, 2}, []int{1}, false}, {[]int{1}, []int{1, 2}, false}, {[]int{1}, []int{1, 0}, false},
		{[]int{1, 2, 3, 4, 5, 6}, []int{1, 2, 3, 4, 5, 6}, true}, {[]int{1, 2, 3, 4, 5, 6}, []int{1, 2, 3, 4, 5, 7}, false},
		// Rows that are not right are asked of too, and their numbers are taken as they are.
		{[]int{most + 1}, []int{most + 1}, true}, {[]int{most + 1}, []int{most}, false}, {[]int{most + 1}, []int{most + 2}, false},
		{[]int{math.MinInt}, []int{math.MinInt}, true}, {[]int{math.MinInt}, []int{math.MaxInt}, false}, {[]int{math.MinInt}, []int{-most}, false},
		{[]int{1 << 32}, []int{0}, false}, {[]int{1<<32 + 5}, []int{5}, false},
		{make([]int, 7), make([]int, 7), true}, {make([]int, 7), make([]int, 8), false}, {make([]int, 6), make([]int, 7), false}, {make([]int, 100000), make([]int, 100000), true},
		{[]int{1, 2, 3, 4, 5, 6, 7}, []int{1, 2, 3, 4, 5, 6, 8}, false},
	} {
		if got := impl.SameVec(c.a, c.b); got != c.want {
			t.Errorf("SameVec(%.40v, %.40v) = %v", c.a, c.b, got)
		}
	}
	for _, row := range append(wrongRows(), rowsOf(impl.MaxDim)...) {
		if !impl.SameVec(row, slices.Clone(row)) {
			t.Errorf("SameVec(%.40v) and its like is false", row)
		}
		for at := range min(len(row), 10) {
			other := slices.Clone(row)
			other[at] ^= 1
			if impl.SameVec(row, other) || impl.SameVec(other, row) {
				t.Errorf("SameVec(%.40v, %.40v) is true", row, other)
			}
		}
	}
}

// roomy is the row with room behind it, in which marks stand; whole is all of it.
func roomy(row []int) (part, whole []int) {
	whole = append(slices.Clone(row), 71, 72, 73, 74, 75, 76, 77, 78)
	return whole[:len(row)], whole
}

func TestRowsAreNewMemory(t *testing.T) {
	for _, op := range twoRowOps {
		for size := 1; size <= impl.MaxDim; size++ {
			for _, n := range []int{one, -one, most} {
				a, wholeA := roomy(slices.Repeat([]int{n}, size))
				b, wholeB := roomy(slices.Repeat([]int{one}, size))
				wasA, wasB := slices.Clone(wholeA), slices.Clone(wholeB)
				got, _ := op.do(a, b)
				other, _ := op.do(a, b)
				if !slices.Equal(wholeA, wasA) || !slices.Equal(wholeB, wasB) {
					t.Fatalf("%s: wrote into what was handed in: %v, %v", op.name, wholeA, wholeB)
				}
				was := slices.Clone(got)
				for _, whole := range [][]int{wholeA, wholeB, other[:cap(other)]} {
					for i := range whole {
						whole[i] = 99
					}
				}
				if !slices.Equal(got, was) {
					t.Fatalf("%s: the answer %v became %v as other rows were written to", op.name, was, got)
				}
			}
		}
	}
}

func TestWhatIsAskedOfRowsWritesIntoNone(t *testing.T) {
	for size := range impl.MaxDim + 2 {
		a, wholeA := roomy(slices.Repeat([]int{one}, size))
		b, wholeB := roomy(slices.Repeat([]int{-one}, size))
		wasA, wasB := slices.Clone(wholeA), slices.Clone(wholeB)
		impl.VecOk(a)
		impl.VecDot(a, b)
		impl.SameVec(a, b)
		if !slices.Equal(wholeA, wasA) || !slices.Equal(wholeB, wasB) {
			t.Fatalf("with %d numbers: wrote into what was handed in: %v, %v", size, wholeA, wholeB)
		}
	}
}

func TestRowsOfOneArgumentTwice(t *testing.T) {
	for _, op := range twoRowOps {
		a, whole := roomy([]int{3 * one, -5 * one, 0, most})
		want, wantOut := wantRow(op, a, a)
		was := slices.Clone(whole)
		got, out := op.do(a, a)
		if !slices.Equal(got, want) || out != wantOut || !slices.Equal(whole, was) {
			t.Errorf("%s of %v twice = %v, %v, want %v, %v", op.name, was[:4], got, out, want, wantOut)
		}
	}
	l := []int{one, -2 * one, 3 * one}
	if got, out := impl.VecDot(l, l); got != 14*one || out || !slices.Equal(l, []int{one, -2 * one, 3 * one}) {
		t.Errorf("VecDot of %v twice = %d, %v", l, got, out)
	}
}
