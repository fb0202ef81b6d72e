package tests

import (
	"math"
	"slices"
	"testing"

	"loop.example/g01407/impl"
)

// mat is the table with these rows.
func mat(rows ...[]int) impl.Mat {
	return impl.Mat{Rows: len(rows), Cols: len(rows[0]), Data: slices.Concat(rows...)}
}

// sized is a table of this size with n at each place.
func sized(rows, cols, n int) impl.Mat {
	return impl.Mat{Rows: rows, Cols: cols, Data: slices.Repeat([]int{n}, rows*cols)}
}

// eachSize calls f with each size that a right table may have.
func eachSize(f func(rows, cols int)) {
	for rows := 1; rows <= impl.MaxDim; rows++ {
		for cols := 1; cols <= impl.MaxDim; cols++ {
			f(rows, cols)
		}
	}
}

// eachTable calls f with many right tables of each size: some with one number alone, some whose steps run over.
func eachTable(f func(m impl.Mat)) {
	eachSize(func(rows, cols int) {
		for first := range rowNumbers {
			for _, by := range []int{0, 1, 3, 7} {
				m := sized(rows, cols, 0)
				for i := range m.Data {
					m.Data[i] = rowNumbers[(first+i*by)%len(rowNumbers)]
				}
				f(m)
			}
		}
	})
}

// wrongTables are tables that are not right, each for one reason, but for those whose sizes are below 1.
func wrongTables() []impl.Mat {
	var l []impl.Mat
	eachSize(func(rows, cols int) {
		right := sized(rows, cols, one)
		l = append(l,
			impl.Mat{Rows: rows, Cols: cols, Data: right.Data[1:]},
			impl.Mat{Rows: rows, Cols: cols, Data: append(slices.Clone(right.Data), one)},
			impl.Mat{Rows: rows, Cols: cols, Data: right.Data[:0]},
			impl.Mat{Rows: rows, Cols: cols},
			impl.Mat{Rows: -rows, Cols: -cols, Data: right.Data},
			impl.Mat{Rows: -rows, Cols: cols, Data: right.Data},
			impl.Mat{Rows: rows, Cols: -cols, Data: right.Data},
			impl.Mat{Rows: 0, Cols: cols, Data: right.Data},
			impl.Mat{Rows: rows, Cols: 0, Data: right.Data},
			impl.Mat{Rows: 0, Cols: cols},
			impl.Mat{Rows: rows, Cols: 0},
		)
		for at := range right.Data {
			n := outOfRange[(at+rows+cols)%len(outOfRange)]
			m := sized(rows, cols, one)
			m.Data[at] = n
			l = append(l, m)
		}
	})
	for n := 1; n <= impl.MaxDim; n++ {
		l = append(l, sized(n, impl.MaxDim+1, one), sized(impl.MaxDim+1, n, one))
	}
	for _, n := range outOfRange {
		l = append(l, impl.Mat{Rows: 1, Cols: 1, Data: []int{n}})
	}
	return append(l,
		impl.Mat{}, impl.Mat{Data: []int{}}, impl.Mat{Data: []int{one}}, impl.Mat{Rows: -1, Cols: -1, Data: []int{one}},
		sized(impl.MaxDim+1, impl.MaxDim+1, 0), sized(1, 36, one), sized(36, 1, one), sized(9, 4, one), sized(1, 1000, 0), sized(1000, 1, 0),
		// The products of these sizes wrap around to the sizes of Data.
		impl.Mat{Rows: 1 << 32, Cols: 1 << 32}, impl.Mat{Rows: math.MinInt, Cols: 2}, impl.Mat{Rows: 1 << 33, Cols: 1 << 31},
		impl.Mat{Rows: math.MaxInt, Cols: math.MaxInt, Data: []int{one}}, impl.Mat{Rows: math.MaxInt, Cols: -1, Data: []int{one}},
		impl.Mat{Rows: math.MaxInt, Cols: 1, Data: []int{one}}, impl.Mat{Rows: 1, Cols: math.MinInt, Data: []int{one}},
		impl.Mat{Rows: 1<<62 + 1, Cols: 4, Data: []int{one, one, one, one}}, impl.Mat{Rows: 4, Cols: 1<<62 + 1, Data: []int{one, one, one, one}},
	)
}

// rowsToTry are rows to try with a table that asks for so many numbers.
func rowsToTry(size int) [][]int { return rowsOf(size)[:40] }

// rowAt and colAt are a row and a column of a right table.
func rowAt(m impl.Mat, at int) []int { return m.Data[at*m.Cols : (at+1)*m.Cols] }

func colAt(m impl.Mat, at int) []int {
	var l []int
	for i := at; i < len(m.Data); i += m.Cols {
		l = append(l, m.Data[i])
	}
	return l
}

// dots is VecDot of each of so many rows and x, and whether any step was out of the range.
func dots(size int, at func(i int) []int, x []int) ([]int, bool) {
	l, marked := make([]int, size), false
	for i := range l {
		var out bool
		l[i], out = impl.VecDot(at(i), x)
		marked = marked || out
	}
	return l, marked
}

func sameTable(a, b impl.Mat) bool {
	return a.Rows == b.Rows && a.Cols == b.Cols && slices.Equal(a.Data, b.Data)
}

func isZeroTable(m impl.Mat) bool { return m.Rows == 0 && m.Cols == 0 && len(m.Data) == 0 }

func TestMatOk(t *testing.T) {
	eachTable(func(m impl.Mat) {
		if !impl.MatOk(m) {
			t.Fatalf("MatOk(%v) is false", m)
		}
	})
	eachSize(func(rows, cols int) {
		for _, n := range []int{0, most, -most} {
			if m := sized(rows, cols, n); !impl.MatOk(m) {
				t.Errorf("MatOk(%v) is false", m)
			}
		}
	})
	for _, m := range wrongTables() {
		if impl.MatOk(m) {
			t.Errorf("MatOk(%.60v) is true", m)
		}
	}
	// Just in the range, and just out of it, at each place of the greatest table.
	for at := range impl.MaxDim * impl.MaxDim {
		for _, n := range []int{most, -most, most + 1, -most - 1} {
			m := sized(impl.MaxDim, impl.MaxDim, 0)
			m.Data[at] = n
			if got := impl.MatOk(m); got != impl.FixOk(n) {
				t.Errorf("MatOk of a table with %d at %d is %v", n, at, got)
			}
		}
	}
}

type tableCase struct {
	m    impl.Mat
	x    []int
	want []int
	out  bool
}

func checkTables(t *testing.T, name string, do func(m impl.Mat, x []int) ([]int, bool), l []tableCase) {
	t.Helper()
	for _, c := range l {
		if got, out := do(c.m, c.x); !slices.Equal(got, c.want) || out != c.out {
			t.Errorf("%s(%v, %v) = %v, %v, want %v, %v", name, c.m, c.x, got, out, c.want, c.out)
		}
	}
}

func TestMatVec(t *testing.T) {
	checkTables(t, "MatVec", impl.MatVec, []tableCase{
		{mat([]int{0}), []int{0}, []int{0}, false},
		{mat([]int{2 * one}), []int{3 * one}, []int{6 * one}, false},
		{mat([]int{most}), []int{one}, []int{most}, false},
		{mat([]int{most}), []int{one + 1}, []int{most}, true},
		{mat([]int{-most}), []int{one + 1}, []int{-most}, true},
		// A table of one row tells one number, one of one column as many as it has rows.
		{mat([]int{one, 2 * one, 3 * one}), []int{4, 5, 6}, []int{32}, false},
		{mat([]int{one}, []int{2 * one}, []int{-one}), []int{5}, []int{5, 10, -5}, false},
		{mat([]int{one, one, one, one, one, one}), []int{1, 2, 3, 4, 5, 6}, []int{21}, false},
		{mat([]int{one, 2 * one, 3 * one}, []int{0, one, -one}), []int{one, one, 2 * one}, []int{9 * one, -one}, false},
		{mat([]int{one, 2 * one}, []int{3 * one, 4 * one}, []int{5 * one, 6 * one}), []int{1, 10}, []int{21, 43, 65}, false},
		// Each product is rounded down by itself, and the sum goes from the left.
		{mat([]int{1, 1}, []int{-1, -1}), []int{one / 2, one / 2}, []int{0, -2}, false},
		{mat([]int{most, 5, -5}, []int{most, -5, 5}), []int{one, one, one}, []int{most - 5, most}, true},
		{mat([]int{most, -5, 5}, []int{-5, 5, most}), []int{one, one, one}, []int{most, most}, false},
		// The first, one between or the last row alone is out of the range.
		{mat([]int{most, 1}, []int{1, 1}, []int{1, 1}), []int{one, one}, []int{most, 2, 2}, true},
		{mat([]int{1, 1}, []int{-most, -1}, []int{1, 1}), []int{one, one}, []int{2, -most, 2}, true},
		{mat([]int{1, 1}, []int{1, 1}, []int{1, most}), []int{one, one}, []int{2, 2, most}, true},
		{mat([]int{most - 1, 1}, []int{1, most - 1}, []int{-most, 0}), []int{one, one}, []int{most, most, -most}, false},
		// The columns would run over; what is not done is not marked.
		{mat([]int{most, 0}, []int{most, 0}), []int{one, one}, []int{most, most}, false},
		{mat([]int{300 * one, one}), []int{300 * one, -most}, []int{0}, true},
	})
}

func TestMatBack(t *testing.T) {
	checkTables(t, "MatBack", impl.MatBack, []tableCase{
		{mat([]int{0}), []int{0}, []int{0}, false},
		{mat([]int{2 * one}), []int{3 * one}, []int{6 * one}, false},
		{mat([]int{most}), []int{one}, []int{most}, false},
		{mat([]int{-most}), []int{one + 1}, []int{-most}, true},
		// Of a table of one row comes as much as it has columns, of one with one column one number.
		{mat([]int{one, 2 * one, -3 * one}), []int{5}, []int{5, 10, -15}, false},
		{mat([]int{one}, []int{2 * one}, []int{-one}), []int{4, 5, 6}, []int{8}, false},
		{mat([]int{1, 2, 3, 4, 5, 6}), []int{one}, []int{1, 2, 3, 4, 5, 6}, false},
		{mat([]int{one, 2 * one, 3 * one}, []int{0, one, -one}), []int{one, 2 * one}, []int{one, 4 * one, one}, false},
		{mat([]int{one, 2 * one}, []int{3 * one, 4 * one}, []int{5 * one, 6 * one}), []int{1, 10, 100}, []int{531, 642}, false},
		{mat([]int{1, -1}, []int{1, -1}), []int{one / 2, one / 2}, []int{0, -2}, false},
		// From the left is from the first row on.
		{mat([]int{most, most}, []int{5, -5}, []int{-5, 5}), []int{one, one, one}, []int{most - 5, most}, true},
		{mat([]int{most, -5}, []int{-5, 5}, []int{5, most}), []int{one, one, one}, []int{most, most}, false},
		// The first, one between or the last column alone is out of the range.
		{mat([]int{most, 1, 1}, []int{1, 1, 1}), []int{one, one}, []int{most, 2, 2}, true},
		{mat([]int{1, -most, 1}, []int{1, -1, 1}), []int{one, one}, []int{2, -most, 2}, true},
		{mat([]int{1, 1, 1}, []int{1, 1, most}), []int{one, one}, []int{2, 2, most}, true},
		// The rows would run over; what is not done is not marked.
		{mat([]int{most, most}, []int{0, 0}), []int{one, one}, []int{most, most}, false},
		{mat([]int{300 * one}, []int{one}), []int{300 * one, -most}, []int{0}, true},
	})
}

func TestOuter(t *testing.T) {
	for _, c := range []struct {
		d, x []int
		want impl.Mat
		out  bool
	}{
		{[]int{0}, []int{0}, mat([]int{0}), false},
		{[]int{2 * one}, []int{3 * one}, mat([]int{6 * one}), false},
		{[]int{one, 2 * one}, []int{3 * one}, mat([]int{3 * one}, []int{6 * one}), false},
		{[]int{3 * one}, []int{one, 2 * one}, mat([]int{3 * one, 6 * one}), false},
		{[]int{one, -one}, []int{1, 2, 3}, mat([]int{1, 2, 3}, []int{-1, -2, -3}), false},
		{[]int{1, 2, 3}, []int{one, 10 * one}, mat([]int{1, 10}, []int{2, 20}, []int{3, 30}), false},
		{[]int{1, -1}, []int{1, -1}, mat([]int{0, -1}, []int{-1, 0}), false},
		{[]int{most}, []int{one}, mat([]int{most}), false},
		{[]int{most}, []int{one + 1}, mat([]int{most}), true},
		{[]int{0, most}, []int{one, -one - 1}, mat([]int{0, 0}, []int{most, -most}), true},
		{[]int{most, 0}, []int{-one - 1, one}, mat([]int{-most, most}, []int{0, 0}), true},
		{[]int{most, most}, []int{one, -one, 0}, mat([]int{most, -most, 0}, []int{most, -most, 0}), false},
		{[]int{300 * one, one}, []int{one, 300 * one}, mat([]int{300 * one, most}, []int{one, 300 * one}), true},
	} {
		if got, out := impl.Outer(c.d, c.x); !sameTable(got, c.want) || out != c.out {
			t.Errorf("Outer(%v, %v) = %v, %v, want %v, %v", c.d, c.x, got, out, c.want, c.out)
		}
	}
}

func TestTranspose(t *testing.T) {
	for _, c := range []struct{ m, want impl.Mat }{
		{mat([]int{7}), mat([]int{7})},
		{mat([]int{1, 2, 3}), mat([]int{1}, []int{2}, []int{3})},
		{mat([]int{1}, []int{2}, []int{3}), mat([]int{1, 2, 3})},
		{mat([]int{1, 2}, []int{3, 4}), mat([]int{1, 3}, []int{2, 4})},
		{mat([]int{1, 2, 3}, []int{4, 5, 6}), mat([]int{1, 4}, []int{2, 5}, []int{3, 6})},
		{mat([]int{most, -most, 1, 2, 3, 4}), mat([]int{most}, []int{-most}, []int{1}, []int{2}, []int{3}, []int{4})},
	} {
		if got := impl.Transpose(c.m); !sameTable(got, c.want) {
			t.Errorf("Transpose(%v) = %v, want %v", c.m, got, c.want)
		}
	}
	eachSize(func(rows, cols int) {
		m := sized(rows, cols, 0)
		for i := range m.Data {
			m.Data[i] = i
		}
		got := impl.Transpose(m)
		if got.Rows != cols || got.Cols != rows || len(got.Data) != rows*cols {
			t.Fatalf("Transpose(%v) = %v", m, got)
		}
		for row := range rows {
			for col := range cols {
				if got.Data[col*rows+row] != m.Data[row*cols+col] {
					t.Fatalf("Transpose(%v) = %v, at %d of row %d", m, got, row, col)
				}
			}
		}
	})
}

func TestTurnedAboutTwiceATableIsWhatItWas(t *testing.T) {
	eachTable(func(m impl.Mat) {
		if got := impl.Transpose(impl.Transpose(m)); !sameTable(got, m) || !impl.SameMat(got, m) {
			t.Fatalf("%v turned about twice is %v", m, got)
		}
	})
}

func TestMatVecAndMatBackAreVecDots(t *testing.T) {
	eachTable(func(m impl.Mat) {
		for _, x := range rowsToTry(m.Cols) {
			want, wantOut := dots(m.Rows, func(i int) []int { return rowAt(m, i) }, x)
			if got, out := impl.MatVec(m, x); !slices.Equal(got, want) || out != wantOut {
				t.Fatalf("MatVec(%v, %v) = %v, %v, want %v, %v", m, x, got, out, want, wantOut)
			}
		}
		for _, d := range rowsToTry(m.Rows) {
			want, wantOut := dots(m.Cols, func(i int) []int { return colAt(m, i) }, d)
			if got, out := impl.MatBack(m, d); !slices.Equal(got, want) || out != wantOut {
				t.Fatalf("MatBack(%v, %v) = %v, %v, want %v, %v", m, d, got, out, want, wantOut)
			}
		}
	})
}

func TestMatBackIsMatVecOfWhatIsTurnedAbout(t *testing.T) {
	check := func(m impl.Mat, d []int) {
		got, out := impl.MatBack(m, d)
		want, wantOut := impl.MatVec(impl.Transpose(m), d)
		if !slices.Equal(got, want) || out != wantOut {
			t.Fatalf("MatBack(%.60v, %v) = %v, %v, but MatVec of it turned about %v, %v", m, d, got, out, want, wantOut)
		}
	}
	eachTable(func(m impl.Mat) {
		for _, d := range rowsToTry(m.Rows) {
			check(m, d)
		}
	})
	for _, m := range append(wrongTables(), sized(2, 3, one), sized(1, 6, one), sized(6, 1, one)) {
		for size := range impl.MaxDim + 2 {
			check(m, slices.Repeat([]int{one}, size))
		}
	}
}

func TestOuterIsFixMulAtEachPlace(t *testing.T) {
	eachSize(func(rows, cols int) {
		for _, d := range rowsToTry(rows) {
			for _, x := range rowsToTry(cols) {
				want, wantOut := sized(rows, cols, 0), false
				for i := range want.Data {
					n, out := impl.FixMul(d[i/cols], x[i%cols])
					want.Data[i], wantOut = n, wantOut || out
				}
				got, out := impl.Outer(d, x)
				if !sameTable(got, want) || out != wantOut || !impl.MatOk(got) {
					t.Fatalf("Outer(%v, %v) = %v, %v, want %v, %v", d, x, got, out, want, wantOut)
				}
				about, aboutOut := impl.Outer(x, d)
				if !sameTable(impl.Transpose(got), about) || aboutOut != out {
					t.Fatalf("Outer(%v, %v) = %v, %v, which is not the other way round %v, %v", d, x, got, out, about, aboutOut)
				}
			}
		}
	})
}

func TestTablesThatAreNotRight(t *testing.T) {
	for _, m := range wrongTables() {
		if got := impl.Transpose(m); !isZeroTable(got) {
			t.Errorf("Transpose(%.60v) = %v, want the zero one", m, got)
		}
		for size := range impl.MaxDim + 2 {
			for _, n := range []int{0, one, most, most + 1} {
				x := slices.Repeat([]int{n}, size)
				if got, out := impl.MatVec(m, x); len(got) != 0 || out {
					t.Errorf("MatVec(%.60v, %v) = %v, %v, want none", m, x, got, out)
				}
				if got, out := impl.MatBack(m, x); len(got) != 0 || out {
					t.Errorf("MatBack(%.60v, %v) = %v, %v, want none", m, x, got, out)
				}
			}
		}
	}
}

// checkNone says where a right table and a row come to something ahead or back.
func checkNone(t *testing.T, m impl.Mat, x []int, ahead, back bool) {
	t.Helper()
	if got, out := impl.MatVec(m, x); ahead && (len(got) != 0 || out) {
		t.Errorf("MatVec(%v, %.40v) = %v, %v, want none", m, x, got, out)
	}
	if got, out := impl.MatBack(m, x); back && (len(got) != 0 || out) {
		t.Errorf("MatBack(%v, %.40v) = %v, %v, want none", m, x, got, out)
	}
}

func TestTablesWithARowThatIsNotRightOrOfAnotherLength(t *testing.T) {
	eachSize(func(rows, cols int) {
		for _, n := range []int{one, most} {
			m := sized(rows, cols, n)
			for _, x := range wrongRows() {
				checkNone(t, m, x, true, true)
			}
			for size := 1; size <= impl.MaxDim; size++ {
				// Each number by the others would run over; but nothing is done.
				checkNone(t, m, slices.Repeat([]int{most}, size), size != cols, size != rows)
			}
		}
	})
}

func TestOuterOfRowsThatAreNotRight(t *testing.T) {
	for _, wrong := range wrongRows() {
		for _, other := range [][]int{{0}, {one, one}, {most, most, most, most, most, most}, nil, wrong} {
			if got, out := impl.Outer(wrong, other); !isZeroTable(got) || out {
				t.Errorf("Outer(%.40v, %.40v) = %v, %v, want the zero one", wrong, other, got, out)
			}
			if got, out := impl.Outer(other, wrong); !isZeroTable(got) || out {
				t.Errorf("Outer(%.40v, %.40v) = %v, %v, want the zero one", other, wrong, got, out)
			}
		}
	}
}

func TestSameMat(t *testing.T) {
	six := []int{1, 2, 3, 4, 5, 6}
	for _, c := range []struct {
		a, b impl.Mat
		want bool
	}{
		{impl.Mat{}, impl.Mat{}, true}, {impl.Mat{}, impl.Mat{Data: []int{}}, true}, {impl.Mat{Data: make([]int, 0, 4)}, impl.Mat{}, true},
		{impl.Mat{Rows: 2, Cols: 3}, impl.Mat{Rows: 2, Cols: 3, Data: []int{}}, true},
		{impl.Mat{}, impl.Mat{Data: []int{0}}, false}, {impl.Mat{Data: []int{0}}, impl.Mat{}, false}, {impl.Mat{}, impl.Mat{Rows: 1}, false}, {impl.Mat{}, impl.Mat{Cols: 1}, false},
		{mat(six), mat(slices.Clone(six)), true},
		{mat(six), impl.Mat{Rows: 6, Cols: 1, Data: six}, false}, {mat(six), impl.Mat{Rows: 1, Cols: 5, Data: six}, false}, {mat(six), impl.Mat{Rows: 2, Cols: 6, Data: six}, false},
		{impl.Mat{Rows: 2, Cols: 3, Data: six}, impl.Mat{Rows: 3, Cols: 2, Data: six}, false}, {impl.Mat{Rows: 2, Cols: 3, Data: six}, impl.Mat{Rows: 2, Cols: 3, Data: six}, true},
		{impl.Mat{Rows: -2, Cols: -3, Data: six}, impl.Mat{Rows: 2, Cols: 3, Data: six}, false}, {impl.Mat{Rows: -2, Cols: -3, Data: six}, impl.Mat{Rows: -2, Cols: -3, Data: six}, true},
		// A nought behind the end is a number too.
		{impl.Mat{Rows: 1, Cols: 1, Data: []int{5}}, impl.Mat{Rows: 1, Cols: 1, Data: []int{5, 0}}, false},
		{impl.Mat{Rows: 6, Cols: 6, Data: make([]int, 35)}, impl.Mat{Rows: 6, Cols: 6, Data: make([]int, 36)}, false},
		{impl.Mat{Rows: 6, Cols: 6, Data: make([]int, 36)}, impl.Mat{Rows: 6, Cols: 6, Data: make([]int, 37)}, false},
		{impl.Mat{Rows: 6, Cols: 6, Data: make([]int, 36)}, impl.Mat{Rows: 6, Cols: 6, Data: make([]int, 72)}, false},
		{impl.Mat{Rows: 6, Cols: 6, Data: make([]int, 36)}, impl.Mat{Rows: 6, Cols: 6}, false},
		// Numbers out of the range are taken as they are.
		{mat([]int{most + 1}), mat([]int{most + 1}), true}, {mat([]int{most + 1}), mat([]int{most}), false}, {mat([]int{math.MinInt}), mat([]int{math.MaxInt}), false},
		{mat([]int{1 << 32}), mat([]int{0}), false}, {impl.Mat{Rows: 1 << 32}, impl.Mat{}, false},
	} {
		if got := impl.SameMat(c.a, c.b); got != c.want {
			t.Errorf("SameMat(%v, %v) = %v", c.a, c.b, got)
		}
		if got := impl.SameMat(c.b, c.a); got != c.want {
			t.Errorf("SameMat(%v, %v) = %v", c.b, c.a, got)
		}
	}
}

// cloneTable is the table in memory of its own.
func cloneTable(m impl.Mat) impl.Mat {
	m.Data = slices.Clone(m.Data)
	return m
}

func TestSameMatHoldsEachNumberAgainstTheOther(t *testing.T) {
	l := append(wrongTables(), sized(1, 1, one), sized(1, 6, one), sized(6, 1, one), sized(6, 6, one))
	for _, size := range []int{0, 1, 35, 36, 37, 71, 72, 73, 108, 1000} {
		l = append(l, impl.Mat{Rows: 6, Cols: 6, Data: slices.Repeat([]int{one}, size)})
	}
	for _, m := range l {
		like := cloneTable(m)
		if !impl.SameMat(m, like) || !impl.SameMat(m, m) {
			t.Errorf("SameMat(%.60v) and its like is false", m)
		}
		for at := range like.Data {
			like.Data[at]++
			if impl.SameMat(m, like) || impl.SameMat(like, m) {
				t.Errorf("SameMat(%.60v) and one with another number at %d is true", m, at)
			}
			like.Data[at]--
		}
		for _, other := range []impl.Mat{{Rows: m.Rows + 1, Cols: m.Cols, Data: m.Data}, {Rows: m.Rows, Cols: m.Cols + 1, Data: m.Data}, {Rows: m.Rows, Cols: m.Cols, Data: append(like.Data, 0)}} {
			if impl.SameMat(m, other) || impl.SameMat(other, m) {
				t.Errorf("SameMat(%.60v, %.60v) is true", m, other)
			}
		}
	}
}

// tableAnswers are the numbers that come of each function of the chapter, handed a table and a row for ahead and one for back.
var tableAnswers = []struct {
	name string
	do   func(m impl.Mat, x, d []int) []int
}{
	{"MatVec", func(m impl.Mat, x, _ []int) []int { row, _ := impl.MatVec(m, x); return row }},
	{"MatBack", func(m impl.Mat, _, d []int) []int { row, _ := impl.MatBack(m, d); return row }},
	{"Outer", func(_ impl.Mat, x, d []int) []int { made, _ := impl.Outer(d, x); return made.Data }},
	{"Transpose", func(m impl.Mat, _, _ []int) []int { return impl.Transpose(m).Data }},
}

func TestTablesAreNewMemory(t *testing.T) {
	for _, f := range tableAnswers {
		eachSize(func(rows, cols int) {
			data, wholeData := roomy(sized(rows, cols, 2*one).Data)
			x, wholeX := roomy(slices.Repeat([]int{one}, cols))
			d, wholeD := roomy(slices.Repeat([]int{-one}, rows))
			m := impl.Mat{Rows: rows, Cols: cols, Data: data}
			wasM, wasX, wasD := slices.Clone(wholeData), slices.Clone(wholeX), slices.Clone(wholeD)
			got := f.do(m, x, d)
			other := f.do(m, x, d)
			if !slices.Equal(wholeData, wasM) || !slices.Equal(wholeX, wasX) || !slices.Equal(wholeD, wasD) {
				t.Fatalf("%s: wrote into what was handed in: %v, %v, %v", f.name, wholeData, wholeX, wholeD)
			}
			if len(got) == 0 {
				t.Fatalf("%s: nothing came of %v, %v and %v", f.name, m, x, d)
			}
			was := slices.Clone(got)
			for _, whole := range [][]int{wholeData, wholeX, wholeD, other[:cap(other)]} {
				for i := range whole {
					whole[i] = 99
				}
			}
			if !slices.Equal(got, was) {
				t.Fatalf("%s: the answer %v became %v as other lists were written to", f.name, was, got)
			}
		})
	}
}

func TestWhatIsAskedOfTablesWritesIntoNone(t *testing.T) {
	for size := range impl.MaxDim*impl.MaxDim + 3 {
		a, wholeA := roomy(slices.Repeat([]int{one}, size))
		b, wholeB := roomy(slices.Repeat([]int{one}, size))
		wasA, wasB := slices.Clone(wholeA), slices.Clone(wholeB)
		eachSize(func(rows, cols int) {
			ofA, ofB := impl.Mat{Rows: rows, Cols: cols, Data: a}, impl.Mat{Rows: rows, Cols: cols, Data: b}
			if impl.MatOk(ofA) != (rows*cols == size) || !impl.SameMat(ofA, ofB) {
				t.Fatalf("asked of tables of %d, %d and %d numbers", rows, cols, size)
			}
		})
		if !slices.Equal(wholeA, wasA) || !slices.Equal(wholeB, wasB) {
			t.Fatalf("with %d numbers: wrote into what was handed in: %v, %v", size, wholeA, wholeB)
		}
	}
}

func TestTablesWithTheirOwnMemoryHandedInTwice(t *testing.T) {
	m := mat([]int{one, 2 * one}, []int{3 * one, 4 * one})
	if got, out := impl.MatVec(m, m.Data[:2]); !slices.Equal(got, []int{5 * one, 11 * one}) || out {
		t.Errorf("MatVec of a table and its own row = %v, %v", got, out)
	}
	if got, out := impl.MatBack(m, m.Data[:2]); !slices.Equal(got, []int{7 * one, 10 * one}) || out {
		t.Errorf("MatBack of a table and its own row = %v, %v", got, out)
	}
	if got, out := impl.Outer(m.Data[:2], m.Data[:2]); !sameTable(got, mat([]int{one, 2 * one}, []int{2 * one, 4 * one})) || out {
		t.Errorf("Outer of a row with itself = %v, %v", got, out)
	}
	if !slices.Equal(m.Data, []int{one, 2 * one, 3 * one, 4 * one}) {
		t.Errorf("the table became %v", m)
	}
}
