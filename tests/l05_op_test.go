package tests

import (
	"math"
	"slices"
	"testing"

	"loop.example/g01407/impl"
)

var opKinds = []int{impl.OpDense, impl.OpBias, impl.OpRelu, impl.OpScale, impl.OpRes}

// op is the operation of as many numbers out as in.
func op(kind, size int, p ...int) impl.Op { return impl.Op{Kind: kind, In: size, Out: size, P: p} }

func dense(in, out int, p ...int) impl.Op {
	return impl.Op{Kind: impl.OpDense, In: in, Out: out, P: p}
}

// sizeOf is how many numbers P of a right operation has.
func sizeOf(kind, in, out int) int {
	return map[int]int{impl.OpDense: in * out, impl.OpBias: in, impl.OpRelu: 0, impl.OpScale: 1, impl.OpRes: in * out}[kind]
}

// costOf is what a right operation costs.
func costOf(kind, in, out int) int {
	return map[int]int{impl.OpDense: in * out, impl.OpBias: 0, impl.OpRelu: 0, impl.OpScale: in, impl.OpRes: in * out}[kind]
}

// eachOpSize calls f with each kind and each size that a right operation may have.
func eachOpSize(f func(kind, in, out int)) {
	for _, kind := range opKinds {
		eachSize(func(out, in int) {
			if in == out || kind == impl.OpDense {
				f(kind, in, out)
			}
		})
	}
}

// filled is an operation with n at each place of P.
func filled(kind, in, out, n int) impl.Op {
	return impl.Op{Kind: kind, In: in, Out: out, P: slices.Repeat([]int{n}, sizeOf(kind, in, out))}
}

// eachOp calls f with many right operations of each kind and size: some with one number alone, some whose steps run over.
func eachOp(f func(o impl.Op)) {
	eachOpSize(func(kind, in, out int) {
		for first := range rowNumbers {
			for _, by := range []int{0, 1, 3, 7} {
				o := filled(kind, in, out, 0)
				for i := range o.P {
					o.P[i] = rowNumbers[(first+i*by)%len(rowNumbers)]
				}
				f(o)
			}
		}
	})
}

// eachStep calls f with many right operations, each with many rows that may go in and come back.
func eachStep(f func(o impl.Op, x, d []int)) {
	eachOp(func(o impl.Op) {
		xs, ds := rowsToTry(o.In), rowsToTry(o.Out)
		for i, x := range xs {
			for _, by := range []int{0, 7, 23} {
				f(o, x, ds[(i+by)%len(ds)])
			}
		}
	})
}

// wrongOps are operations that are not right, most of them for one reason.
func wrongOps() []impl.Op {
	var l []impl.Op
	eachOpSize(func(kind, in, out int) {
		right := filled(kind, in, out, one)
		with := func(change func(o *impl.Op)) {
			o := right
			o.P = slices.Clone(right.P)
			change(&o)
			l = append(l, o)
		}
		with(func(o *impl.Op) { o.P = append(o.P, one) })
		if len(right.P) > 0 {
			with(func(o *impl.Op) { o.P = o.P[1:] })
			with(func(o *impl.Op) { o.P = o.P[:0] })
			with(func(o *impl.Op) { o.P = nil })
		}
		for at := range right.P {
			with(func(o *impl.Op) { o.P[at] = outOfRange[(at+in+out)%len(outOfRange)] })
		}
		for _, kind := range []int{impl.OpDense - 1, impl.OpRes + 1, -kind, 1 << 32, 1<<32 + kind, math.MaxInt, math.MinInt} {
			with(func(o *impl.Op) { o.Kind = kind })
			with(func(o *impl.Op) { o.Kind, o.P = kind, nil })
		}
		for _, n := range []int{0, -1, -in, impl.MaxDim + 1, math.MaxInt, math.MinInt} {
			with(func(o *impl.Op) { o.In = n })
			with(func(o *impl.Op) { o.Out = n })
			with(func(o *impl.Op) { o.In, o.Out = n, n })
			with(func(o *impl.Op) { o.In, o.Out, o.P = n, n, nil })
		}
	})
	for _, kind := range opKinds {
		for n := 1; n <= impl.MaxDim; n++ {
			l = append(l, filled(kind, n, impl.MaxDim+1, one), filled(kind, impl.MaxDim+1, n, one), filled(kind, 0, n, one), filled(kind, n, 0, one))
			for other := 1; other <= impl.MaxDim; other++ {
				if n != other && kind != impl.OpDense {
					l = append(l, filled(kind, n, other, one), impl.Op{Kind: kind, In: n, Out: other, P: slices.Repeat([]int{one}, other)}, impl.Op{Kind: kind, In: n, Out: other})
				}
			}
		}
		l = append(l,
			filled(kind, impl.MaxDim+1, impl.MaxDim+1, one), impl.Op{Kind: kind}, impl.Op{Kind: kind, P: []int{one}}, impl.Op{Kind: kind, In: -1, Out: -1, P: []int{one}},
			// The products of these sizes run over, to as many as P has.
			op(kind, 1<<32), op(kind, math.MinInt), impl.Op{Kind: kind, In: 1 << 33, Out: 1 << 31}, op(kind, math.MaxInt, one),
			impl.Op{Kind: kind, In: 1<<62 + 1, Out: 4, P: []int{one, one, one, one}}, impl.Op{Kind: kind, In: 4, Out: 1<<62 + 1, P: []int{one, one, one, one}},
		)
	}
	return append(l, impl.Op{}, impl.Op{P: []int{}}, impl.Op{P: []int{one}}, impl.Op{In: 1, Out: 1}, impl.Op{In: 1, Out: 1, P: []int{one}}, op(6, 1), op(6, 1, one))
}

func TestOpKinds(t *testing.T) {
	if !slices.Equal(opKinds, []int{1, 2, 3, 4, 5}) {
		t.Errorf("the kinds are %v", opKinds)
	}
}

func TestOpOk(t *testing.T) {
	eachOp(func(o impl.Op) {
		if !impl.OpOk(o) {
			t.Fatalf("OpOk(%v) is false", o)
		}
	})
	for _, o := range []impl.Op{
		dense(1, 1, 0), dense(6, 1, 1, 2, 3, 4, 5, 6), dense(1, 6, 1, 2, 3, 4, 5, 6), op(impl.OpBias, 1, 0), op(impl.OpScale, 6, most), op(impl.OpRes, 1, -most),
		op(impl.OpRelu, 1), {Kind: impl.OpRelu, In: 6, Out: 6, P: []int{}}, {Kind: impl.OpRelu, In: 6, Out: 6, P: make([]int, 0, 4)},
	} {
		if !impl.OpOk(o) {
			t.Errorf("OpOk(%v) is false", o)
		}
	}
	for _, o := range wrongOps() {
		if impl.OpOk(o) {
			t.Errorf("OpOk(%.80v) is true", o)
		}
	}
}

func TestOpOkAsksEachNumberWhetherItIsInTheRange(t *testing.T) {
	eachOpSize(func(kind, in, out int) {
		for at := range sizeOf(kind, in, out) {
			for _, n := range []int{most, -most, most + 1, -most - 1} {
				o := filled(kind, in, out, 0)
				o.P[at] = n
				if got := impl.OpOk(o); got != impl.FixOk(n) {
					t.Errorf("OpOk(%v) is %v", o, got)
				}
			}
		}
	})
}

func TestOpSize(t *testing.T) {
	for _, c := range []struct{ kind, in, out, want int }{
		{impl.OpDense, 1, 1, 1}, {impl.OpDense, 2, 3, 6}, {impl.OpDense, 3, 2, 6}, {impl.OpDense, 6, 6, 36}, {impl.OpDense, 1, 6, 6}, {impl.OpDense, 6, 1, 6},
		{impl.OpBias, 1, 1, 1}, {impl.OpBias, 6, 6, 6}, {impl.OpRelu, 1, 1, 0}, {impl.OpRelu, 6, 6, 0},
		{impl.OpScale, 1, 1, 1}, {impl.OpScale, 6, 6, 1}, {impl.OpRes, 1, 1, 1}, {impl.OpRes, 3, 3, 9}, {impl.OpRes, 6, 6, 36},
		// In and Out may differ, though but for OpDense it is not right then.
		{impl.OpBias, 2, 5, 2}, {impl.OpBias, 5, 2, 5}, {impl.OpRelu, 2, 5, 0}, {impl.OpScale, 2, 5, 1}, {impl.OpRes, 2, 5, 10}, {impl.OpRes, 5, 2, 10},
		{0, 1, 1, 0}, {6, 1, 1, 0}, {0, 6, 6, 0}, {6, 6, 6, 0}, {-1, 2, 3, 0}, {math.MaxInt, 2, 3, 0}, {math.MinInt, 2, 3, 0}, {1<<32 + impl.OpDense, 2, 3, 0},
	} {
		for _, p := range [][]int{nil, {}, {one}, make([]int, c.want), make([]int, 100), {most + 1}} {
			if got := impl.OpSize(impl.Op{Kind: c.kind, In: c.in, Out: c.out, P: p}); got != c.want {
				t.Errorf("OpSize of kind %d, %d in, %d out, %d numbers = %d, want %d", c.kind, c.in, c.out, len(p), got, c.want)
			}
		}
	}
}

func TestOpSizeOfSizesOutOfTheRange(t *testing.T) {
	wrong := []int{0, -1, -6, impl.MaxDim + 1, 1 << 31, 1 << 32, 1<<32 + 1, 1 << 33, 1 << 62, 1<<62 + 1, math.MaxInt, math.MinInt}
	for kind := impl.OpDense - 1; kind <= impl.OpRes+1; kind++ {
		for _, n := range wrong {
			for _, other := range append([]int{1, 2, 4, impl.MaxDim}, wrong...) {
				for _, o := range []impl.Op{{Kind: kind, In: n, Out: other}, {Kind: kind, In: other, Out: n, P: []int{one}}} {
					if got := impl.OpSize(o); got != 0 {
						t.Errorf("OpSize(%v) = %d", o, got)
					}
				}
			}
		}
	}
}

func TestOpForward(t *testing.T) {
	for _, c := range []struct {
		o       impl.Op
		x, want []int
		out     bool
	}{
		{dense(1, 1, 2*one), []int{3 * one}, []int{6 * one}, false},
		{dense(2, 3, one, 2*one, 3*one, 4*one, 5*one, 6*one), []int{1, 10}, []int{21, 43, 65}, false},
		{dense(3, 2, one, 2*one, 3*one, 4*one, 5*one, 6*one), []int{1, 10, 100}, []int{321, 654}, false},
		{dense(6, 1, one, one, one, one, one, one), []int{1, 2, 3, 4, 5, 6}, []int{21}, false},
		{dense(1, 6, one, 2*one, 3*one, 4*one, 5*one, 6*one), []int{7}, []int{7, 14, 21, 28, 35, 42}, false},
		{dense(1, 1, most), []int{one}, []int{most}, false},
		{dense(1, 1, most), []int{one + 1}, []int{most}, true},
		{dense(1, 2, one, -one-1), []int{most}, []int{most, -most}, true},
		// Of its columns one would run over; back is not what is done.
		{dense(1, 2, most, most), []int{one}, []int{most, most}, false},
		{op(impl.OpBias, 3, 10, -20, 0), []int{1, 2, 3}, []int{11, -18, 3}, false},
		{op(impl.OpBias, 1, 1), []int{most - 1}, []int{most}, false},
		{op(impl.OpBias, 1, 1), []int{most}, []int{most}, true},
		{op(impl.OpBias, 2, 0, -most), []int{5, -1}, []int{5, -most}, true},
		{op(impl.OpRelu, 1), []int{0}, []int{0}, false},
		{op(impl.OpRelu, 6), []int{1, -1, 0, most, -most, 5}, []int{1, 0, 0, most, 0, 5}, false},
		{op(impl.OpScale, 3, 2*one), []int{1, -2, 3 * one}, []int{2, -4, 6 * one}, false},
		{op(impl.OpScale, 2, 1), []int{-1, 1}, []int{-1, 0}, false},
		{op(impl.OpScale, 2, one+1), []int{1, most}, []int{1, most}, true},
		{op(impl.OpScale, 1, -most), []int{one}, []int{-most}, false},
		{op(impl.OpScale, 6, 0), []int{most, most, most, -most, -most, -most}, []int{0, 0, 0, 0, 0, 0}, false},
		{op(impl.OpRes, 1, 2*one), []int{3 * one}, []int{9 * one}, false},
		{op(impl.OpRes, 2, one, 2*one, 3*one, 4*one), []int{1, 10}, []int{22, 53}, false},
		{op(impl.OpRes, 2, 0, 0, 0, 0), []int{most, -most}, []int{most, -most}, false},
		{op(impl.OpRes, 1, -one), []int{most}, []int{0}, false},
		// The sum behind the table alone is out of the range, then the table alone.
		{op(impl.OpRes, 1, 1), []int{most}, []int{most}, true},
		{op(impl.OpRes, 1, one), []int{most}, []int{most}, true},
		{op(impl.OpRes, 2, 0, one, 0, 0), []int{1, most}, []int{most, most}, true},
		{op(impl.OpRes, 2, 0, one, 0, 0), []int{0, most}, []int{most, most}, false},
		{op(impl.OpRes, 1, -2*one), []int{most}, []int{0}, true},
		{op(impl.OpRes, 2, 0, 0, -one-1, 0), []int{most, 5}, []int{most, 5 - most}, true},
		{op(impl.OpRes, 2, one, one, 0, 0), []int{1 << 30, -1 << 30}, []int{1 << 30, -1 << 30}, false},
	} {
		if got, out := impl.OpForward(c.o, c.x); !slices.Equal(got, c.want) || out != c.out {
			t.Errorf("OpForward(%v, %v) = %v, %v, want %v, %v", c.o, c.x, got, out, c.want, c.out)
		}
	}
}

func TestOpBackward(t *testing.T) {
	for _, c := range []struct {
		o       impl.Op
		x, d    []int
		want, g []int
		out     bool
	}{
		{dense(1, 1, 2*one), []int{3 * one}, []int{5 * one}, []int{10 * one}, []int{15 * one}, false},
		{dense(2, 3, one, 2*one, 3*one, 4*one, 5*one, 6*one), []int{one, -one}, []int{1, 10, 100}, []int{531, 642}, []int{1, -1, 10, -10, 100, -100}, false},
		{dense(3, 2, one, 2*one, 3*one, 4*one, 5*one, 6*one), []int{one, 0, -one}, []int{1, 10}, []int{41, 52, 63}, []int{1, 0, -1, 10, 0, -10}, false},
		{dense(1, 1, 300*one), []int{0}, []int{300 * one}, []int{most}, []int{0}, true},
		{dense(1, 1, 0), []int{300 * one}, []int{300 * one}, []int{0}, []int{most}, true},
		// Ahead it would run over; back it does not.
		{dense(1, 1, 300*one), []int{300 * one}, []int{0}, []int{0}, []int{0}, false},
		{dense(2, 1, one, one), []int{most, most}, []int{one}, []int{one, one}, []int{most, most}, false},
		{op(impl.OpBias, 3, 10, 20, 30), []int{1, 2, 3}, []int{7, -8, 9}, []int{7, -8, 9}, []int{7, -8, 9}, false},
		{op(impl.OpBias, 2, most, -most), []int{most, -most}, []int{most, -most}, []int{most, -most}, []int{most, -most}, false},
		{op(impl.OpRelu, 1), []int{0}, []int{7}, []int{0}, nil, false},
		{op(impl.OpRelu, 1), []int{1}, []int{-7}, []int{-7}, nil, false},
		{op(impl.OpRelu, 6), []int{1, -1, 0, most, -most, 5}, []int{-1, 2, 3, most, most, 0}, []int{-1, 0, 0, most, 0, 0}, nil, false},
		{op(impl.OpScale, 1, 2*one), []int{3 * one}, []int{5 * one}, []int{10 * one}, []int{15 * one}, false},
		{op(impl.OpScale, 3, -one), []int{one, 2 * one, 3 * one}, []int{1, 10, -100}, []int{-1, -10, 100}, []int{-279}, false},
		{op(impl.OpScale, 1, 300*one), []int{0}, []int{300 * one}, []int{most}, []int{0}, true},
		{op(impl.OpScale, 1, 0), []int{300 * one}, []int{300 * one}, []int{0}, []int{most}, true},
		{op(impl.OpScale, 1, 300*one), []int{300 * one}, []int{0}, []int{0}, []int{0}, false},
		// The sum of the gradient runs over on the way, though it ends in the range.
		{op(impl.OpScale, 3, 0), []int{most, 5, -5}, []int{one, one, one}, []int{0, 0, 0}, []int{most - 5}, true},
		{op(impl.OpScale, 3, 0), []int{-5, 5, most}, []int{one, one, one}, []int{0, 0, 0}, []int{most}, false},
		{op(impl.OpRes, 1, 2*one), []int{3 * one}, []int{5 * one}, []int{15 * one}, []int{15 * one}, false},
		{op(impl.OpRes, 2, one, 2*one, 3*one, 4*one), []int{one, -one}, []int{1, 10}, []int{32, 52}, []int{1, -1, 10, -10}, false},
		{op(impl.OpRes, 1, -2*one), []int{0}, []int{most}, []int{0}, []int{0}, true},
		{op(impl.OpRes, 1, 0), []int{300 * one}, []int{300 * one}, []int{300 * one}, []int{most}, true},
		{op(impl.OpRes, 1, one), []int{0}, []int{most}, []int{most}, []int{0}, true},
		{op(impl.OpRes, 1, -one), []int{0}, []int{most}, []int{0}, []int{0}, false},
		{op(impl.OpRes, 1, one), []int{most}, []int{0}, []int{0}, []int{0}, false},
	} {
		if got, g, out := impl.OpBackward(c.o, c.x, c.d); !slices.Equal(got, c.want) || !slices.Equal(g, c.g) || out != c.out {
			t.Errorf("OpBackward(%v, %v, %v) = %v, %v, %v, want %v, %v, %v", c.o, c.x, c.d, got, g, out, c.want, c.g, c.out)
		}
	}
}

// tableOf is the table of P.
func tableOf(o impl.Op) impl.Mat { return impl.Mat{Rows: o.Out, Cols: o.In, Data: o.P} }

// wantAhead is what the line of its kind says of a right operation, in the words of chapters 3 and 4.
func wantAhead(o impl.Op, x []int) ([]int, bool) {
	switch o.Kind {
	case impl.OpDense:
		return impl.MatVec(tableOf(o), x)
	case impl.OpBias:
		return impl.VecAdd(x, o.P)
	case impl.OpRelu:
		return impl.VecRelu(x), false
	case impl.OpScale:
		return impl.VecScale(o.P[0], x)
	}
	row, outRow := impl.MatVec(tableOf(o), x)
	sum, outSum := impl.VecAdd(x, row)
	return sum, outRow || outSum
}

func wantBack(o impl.Op, x, d []int) ([]int, []int, bool) {
	switch o.Kind {
	case impl.OpBias:
		return d, d, false
	case impl.OpRelu:
		return impl.VecMask(x, d), nil, false
	case impl.OpScale:
		row, outRow := impl.VecScale(o.P[0], d)
		n, outDot := impl.VecDot(d, x)
		return row, []int{n}, outRow || outDot
	}
	row, outRow := impl.MatBack(tableOf(o), d)
	g, outG := impl.Outer(d, x)
	if o.Kind == impl.OpDense {
		return row, g.Data, outRow || outG
	}
	sum, outSum := impl.VecAdd(d, row)
	return sum, g.Data, outRow || outG || outSum
}

func TestOperationsGoAheadAsTheirKindSays(t *testing.T) {
	eachStep(func(o impl.Op, x, _ []int) {
		want, wantOut := wantAhead(o, x)
		got, out := impl.OpForward(o, x)
		if !slices.Equal(got, want) || out != wantOut {
			t.Fatalf("OpForward(%v, %v) = %v, %v, want %v, %v", o, x, got, out, want, wantOut)
		}
		if len(got) != o.Out || !impl.VecOk(got) {
			t.Fatalf("OpForward(%v, %v) = %v, which is no right row of %d numbers", o, x, got, o.Out)
		}
	})
}

func TestOperationsGoBackAsTheirKindSays(t *testing.T) {
	eachStep(func(o impl.Op, x, d []int) {
		want, wantG, wantOut := wantBack(o, x, d)
		got, g, out := impl.OpBackward(o, x, d)
		if !slices.Equal(got, want) || !slices.Equal(g, wantG) || out != wantOut {
			t.Fatalf("OpBackward(%v, %v, %v) = %v, %v, %v, want %v, %v, %v", o, x, d, got, g, out, want, wantG, wantOut)
		}
		if len(got) != o.In || !impl.VecOk(got) {
			t.Fatalf("OpBackward(%v, %v, %v) = %v, which is no right row of %d numbers", o, x, d, got, o.In)
		}
		if len(g) != impl.OpSize(o) || len(g) != len(o.P) || slices.ContainsFunc(g, func(n int) bool { return !impl.FixOk(n) }) {
			t.Fatalf("OpBackward(%v, %v, %v) has the gradients %v, want %d in the range", o, x, d, g, len(o.P))
		}
	})
}

func TestBackWithNoughtComesToNought(t *testing.T) {
	eachOp(func(o impl.Op) {
		nought := make([]int, o.Out)
		for _, x := range rowsToTry(o.In) {
			got, g, out := impl.OpBackward(o, x, nought)
			if !slices.Equal(got, make([]int, o.In)) || !slices.Equal(g, make([]int, impl.OpSize(o))) || out {
				t.Fatalf("OpBackward(%v, %v, %v) = %v, %v, %v", o, x, nought, got, g, out)
			}
		}
	})
}

// checkNoStep says where an operation and two rows of which nothing is made come to something.
func checkNoStep(t *testing.T, o impl.Op, x, d []int, ahead, back bool) {
	t.Helper()
	if got, out := impl.OpForward(o, x); ahead && (len(got) != 0 || out) {
		t.Errorf("OpForward(%.80v, %.40v) = %v, %v, want none", o, x, got, out)
	}
	if got, g, out := impl.OpBackward(o, x, d); back && (len(got) != 0 || len(g) != 0 || out) {
		t.Errorf("OpBackward(%.80v, %.40v, %.40v) = %v, %v, %v, want none", o, x, d, got, g, out)
	}
}

func TestOperationsThatAreNotRight(t *testing.T) {
	for _, o := range wrongOps() {
		for size := range impl.MaxDim + 2 {
			for _, n := range []int{0, one, most} {
				row := slices.Repeat([]int{n}, size)
				checkNoStep(t, o, row, row, true, true)
			}
		}
		// As many as go in and come out, so that the operation alone is why.
		if o.In >= 1 && o.In <= impl.MaxDim && o.Out >= 1 && o.Out <= impl.MaxDim {
			for _, n := range []int{0, one, most} {
				checkNoStep(t, o, slices.Repeat([]int{n}, o.In), slices.Repeat([]int{n}, o.Out), true, true)
			}
		}
		if got := impl.OpCost(o); got != 0 {
			t.Errorf("OpCost(%.80v) = %d", o, got)
		}
	}
}

func TestOperationsWithARowThatIsNotRight(t *testing.T) {
	wrong := wrongRows()
	eachOpSize(func(kind, in, out int) {
		for _, n := range []int{one, most} {
			o := filled(kind, in, out, n)
			x, d := slices.Repeat([]int{n}, in), slices.Repeat([]int{n}, out)
			for _, row := range wrong {
				checkNoStep(t, o, row, d, true, true)
				checkNoStep(t, o, x, row, false, true)
				checkNoStep(t, o, row, row, true, true)
			}
		}
	})
}

func TestOperationsWithARowOfAnotherLength(t *testing.T) {
	eachOpSize(func(kind, in, out int) {
		for _, n := range []int{0, one, most} {
			o := filled(kind, in, out, n)
			for sizeX := 1; sizeX <= impl.MaxDim; sizeX++ {
				for sizeD := 1; sizeD <= impl.MaxDim; sizeD++ {
					x, d := slices.Repeat([]int{n}, sizeX), slices.Repeat([]int{n}, sizeD)
					checkNoStep(t, o, x, d, sizeX != in, sizeX != in || sizeD != out)
				}
			}
		}
	})
}

func TestOpCost(t *testing.T) {
	for _, c := range []struct {
		o    impl.Op
		want int
	}{
		{dense(1, 1, 0), 1}, {dense(2, 3, 1, 2, 3, 4, 5, 6), 6}, {dense(3, 2, 1, 2, 3, 4, 5, 6), 6}, {filled(impl.OpDense, 6, 6, most), 36},
		{op(impl.OpBias, 1, one), 0}, {op(impl.OpBias, 2, one, one), 0}, {op(impl.OpRelu, 1), 0}, {op(impl.OpRelu, 6), 0},
		{op(impl.OpScale, 1, one), 1}, {op(impl.OpScale, 2, 0), 2}, {op(impl.OpScale, 6, -most), 6},
		{op(impl.OpRes, 1, one), 1}, {op(impl.OpRes, 2, 1, 2, 3, 4), 4}, {filled(impl.OpRes, 6, 6, 0), 36},
		// These are not right: of another length, out of the range, of sizes that differ.
		{dense(2, 3, 1, 2, 3, 4, 5), 0}, {dense(1, 1, most+1), 0}, {op(impl.OpScale, 2), 0}, {op(impl.OpScale, 2, 1, 2), 0}, {op(impl.OpScale, 2, -most-1), 0},
		{impl.Op{Kind: impl.OpScale, In: 2, Out: 3, P: []int{one}}, 0}, {filled(impl.OpRes, 2, 3, one), 0}, {filled(impl.OpDense, 7, 1, one), 0}, {op(impl.OpScale, 7, one), 0}, {op(0, 2), 0}, {op(6, 2), 0},
	} {
		if got := impl.OpCost(c.o); got != c.want {
			t.Errorf("OpCost(%v) = %d, want %d", c.o, got, c.want)
		}
	}
	eachOp(func(o impl.Op) {
		if got := impl.OpCost(o); got != costOf(o.Kind, o.In, o.Out) {
			t.Fatalf("OpCost(%v) = %d", o, got)
		}
	})
}

// otherOps are like o but for one field.
func otherOps(o impl.Op) []impl.Op {
	l := []impl.Op{{Kind: o.Kind ^ 1, In: o.In, Out: o.Out, P: o.P}, {Kind: o.Kind, In: o.In ^ 1, Out: o.Out, P: o.P}, {Kind: o.Kind, In: o.In, Out: o.Out ^ 1, P: o.P}}
	l = append(l, impl.Op{Kind: o.Kind, In: o.In, Out: o.Out, P: append(slices.Clone(o.P), 0)})
	for at := range o.P {
		like := o
		like.P = slices.Clone(o.P)
		like.P[at] ^= 1
		l = append(l, like)
	}
	return l
}

func TestSameOp(t *testing.T) {
	l := wrongOps()
	eachOpSize(func(kind, in, out int) { l = append(l, filled(kind, in, out, one), filled(kind, in, out, most)) })
	for _, o := range l {
		like := o
		like.P = slices.Clone(o.P)
		if !impl.SameOp(o, like) || !impl.SameOp(o, o) {
			t.Errorf("SameOp(%.80v) and its like is false", o)
		}
		for _, other := range otherOps(o) {
			if impl.SameOp(o, other) || impl.SameOp(other, o) {
				t.Errorf("SameOp(%.80v, %.80v) is true", o, other)
			}
		}
	}
	for _, c := range []struct {
		a, b impl.Op
		want bool
	}{
		{impl.Op{}, impl.Op{}, true}, {impl.Op{}, impl.Op{P: []int{}}, true}, {impl.Op{}, impl.Op{P: make([]int, 0, 4)}, true}, {impl.Op{}, impl.Op{P: []int{0}}, false},
		{op(impl.OpRelu, 2), impl.Op{Kind: impl.OpRelu, In: 2, Out: 2, P: []int{}}, true}, {op(impl.OpRelu, 2), op(impl.OpRelu, 3), false},
		{dense(2, 3, 1, 2, 3, 4, 5, 6), dense(3, 2, 1, 2, 3, 4, 5, 6), false}, {op(impl.OpDense, 2, 1, 2, 3, 4), op(impl.OpRes, 2, 1, 2, 3, 4), false},
		{op(impl.OpBias, 2, 1, 2), op(impl.OpBias, 2, 2, 1), false}, {op(impl.OpBias, 2, 1, 2), op(impl.OpBias, 2, 1), false},
		// What is not right is taken as it is.
		{op(0, 0, most+1), op(0, 0, most+1), true}, {op(0, 0, most+1), op(0, 0, most), false}, {op(0, 0, math.MinInt), op(0, 0, math.MaxInt), false}, {op(0, 0, 1<<32), op(0, 0, 0), false},
		{op(1<<32, 0), op(0, 0), false}, {op(1, 1<<32), op(1, 0), false}, {op(-1, 0), op(1, 0), false}, {op(9, -7), op(9, -7), true},
	} {
		if impl.SameOp(c.a, c.b) != c.want || impl.SameOp(c.b, c.a) != c.want {
			t.Errorf("SameOp(%v, %v) is not %v", c.a, c.b, c.want)
		}
	}
}

// stepRows are the rows that an operation answers, ahead, back and as gradients.
func stepRows(o impl.Op, x, d []int) [][]int {
	ahead, _ := impl.OpForward(o, x)
	back, g, _ := impl.OpBackward(o, x, d)
	return [][]int{ahead, back, g}
}

func TestOperationsAreNewMemory(t *testing.T) {
	eachOpSize(func(kind, in, out int) {
		for _, n := range []int{one, -one, 0, most} {
			o := filled(kind, in, out, n)
			p, wholeP := roomy(o.P)
			x, wholeX := roomy(slices.Repeat([]int{one}, in))
			d, wholeD := roomy(slices.Repeat([]int{-one}, out))
			o.P = p
			wasP, wasX, wasD := slices.Clone(wholeP), slices.Clone(wholeX), slices.Clone(wholeD)
			got, other := stepRows(o, x, d), stepRows(o, x, d)
			if !slices.Equal(wholeP, wasP) || !slices.Equal(wholeX, wasX) || !slices.Equal(wholeD, wasD) {
				t.Fatalf("of %v: wrote into what was handed in: %v, %v, %v", o, wholeP, wholeX, wholeD)
			}
			if len(got[0]) != out || len(got[1]) != in || len(got[2]) != len(p) {
				t.Fatalf("of %v, %v and %v came %v", o, x, d, got)
			}
			for i, row := range got {
				// Each answer is held against all that was handed in and all other answers, to the end of their room.
				was := slices.Clone(row)
				others := slices.Concat([][]int{wholeP, wholeX, wholeD}, other, got[:i], got[i+1:])
				for _, l := range others {
					whole := l[:cap(l)]
					for at := range whole {
						whole[at] = 99 + i
					}
				}
				if !slices.Equal(row, was) {
					t.Fatalf("of %v: the answer %v became %v as other rows were written to", o, was, row)
				}
			}
		}
	})
}

func TestWhatIsAskedOfOperationsWritesIntoNone(t *testing.T) {
	for size := range impl.MaxDim*impl.MaxDim + 3 {
		a, wholeA := roomy(slices.Repeat([]int{one}, size))
		b, wholeB := roomy(slices.Repeat([]int{one}, size))
		x, wholeX := roomy([]int{one, one, one})
		wasA, wasB, wasX := slices.Clone(wholeA), slices.Clone(wholeB), slices.Clone(wholeX)
		for kind := impl.OpDense - 1; kind <= impl.OpRes+1; kind++ {
			eachSize(func(out, in int) {
				ofA, ofB := impl.Op{Kind: kind, In: in, Out: out, P: a}, impl.Op{Kind: kind, In: in, Out: out, P: b}
				impl.OpSize(ofA)
				impl.OpCost(ofA)
				stepRows(ofA, x, x)
				right := slices.Contains(opKinds, kind) && (in == out || kind == impl.OpDense) && size == sizeOf(kind, in, out)
				if impl.OpOk(ofA) != right || !impl.SameOp(ofA, ofB) {
					t.Fatalf("asked of operations of kind %d, %d in, %d out, %d numbers", kind, in, out, size)
				}
			})
		}
		if !slices.Equal(wholeA, wasA) || !slices.Equal(wholeB, wasB) || !slices.Equal(wholeX, wasX) {
			t.Fatalf("with %d numbers: wrote into what was handed in: %v, %v, %v", size, wholeA, wholeB, wholeX)
		}
	}
}

func TestOperationsWithTheirOwnMemoryHandedInTwice(t *testing.T) {
	for _, kind := range opKinds {
		l := []int{2 * one, -3 * one, 5 * one, 7 * one}
		o := op(kind, 2, l[:sizeOf(kind, 2, 2)]...)
		row := l[:2]
		apart := op(kind, 2, slices.Clone(o.P)...)
		ahead, aheadOut := wantAhead(apart, slices.Clone(row))
		back, g, backOut := wantBack(apart, slices.Clone(row), slices.Clone(row))
		if got, out := impl.OpForward(o, row); !slices.Equal(got, ahead) || out != aheadOut {
			t.Errorf("OpForward(%v, %v) = %v, %v, want %v, %v", o, row, got, out, ahead, aheadOut)
		}
		if got, gotG, out := impl.OpBackward(o, row, row); !slices.Equal(got, back) || !slices.Equal(gotG, g) || out != backOut {
			t.Errorf("OpBackward(%v, %v, %v) = %v, %v, %v, want %v, %v, %v", o, row, row, got, gotG, out, back, g, backOut)
		}
		if !slices.Equal(l, []int{2 * one, -3 * one, 5 * one, 7 * one}) {
			t.Errorf("of kind %d: what was handed in became %v", kind, l)
		}
	}
}
