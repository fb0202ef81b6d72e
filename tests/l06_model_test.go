package tests

import (
	"math"
	"math/big"
	"reflect"
	"slices"
	"testing"

	"loop.example/g01407/impl"
)

func model(ops ...impl.Op) impl.Model { return impl.Model{Ops: ops} }

// eachModel calls f with right models of each number of operations, with each kind at each place, of many sizes.
func eachModel(f func(m impl.Model)) {
	for count := 1; count <= impl.MaxOps; count++ {
		for first := range opKinds {
			for by := range opKinds {
				for _, step := range []int{0, 1, 2, 5} {
					f(chainOf(count, first, by, step))
				}
			}
		}
	}
}

// chainOf has operations that fit: each but those of OpDense takes as many numbers as it makes.
func chainOf(count, first, by, step int) impl.Model {
	var m impl.Model
	size := 1 + (first*step+by)%impl.MaxDim
	for i := range count {
		kind, next := opKinds[(first+i*by)%len(opKinds)], size
		if kind == impl.OpDense {
			next = 1 + (size+i+step)%impl.MaxDim
		}
		m.Ops = append(m.Ops, filled(kind, size, next, rowNumbers[(first+i)%len(rowNumbers)]))
		size = next
	}
	return m
}

// wantModel is what the chapter says of a model: what goes in and what comes out, 0 and 0 where it is not right.
func wantModel(m impl.Model) (in, out int) {
	if len(m.Ops) < 1 || len(m.Ops) > impl.MaxOps {
		return 0, 0
	}
	for i, o := range m.Ops {
		if !impl.OpOk(o) || i > 0 && m.Ops[i-1].Out != o.In {
			return 0, 0
		}
	}
	return m.Ops[0].In, m.Ops[len(m.Ops)-1].Out
}

// rightRow is a row of so many of rowNumbers, from one place on.
func rightRow(size, begin int) []int {
	row := make([]int, size)
	for i := range row {
		row[i] = rowNumbers[(begin+i)%len(rowNumbers)]
	}
	return row
}

// batchFor is so many pairs of right rows of as many numbers.
func batchFor(in, out, count int) []impl.Pair {
	b := make([]impl.Pair, count)
	for i := range b {
		b[i] = impl.Pair{X: rightRow(in, 3*i+out), T: rightRow(out, 5*i+in)}
	}
	return b
}

// checkModel says where a model that is right, just where right is true, is answered otherwise.
func checkModel(t *testing.T, m impl.Model, right bool) {
	t.Helper()
	in, out := wantModel(m)
	if right != (in > 0) {
		t.Fatalf("the test holds %.200v to be right: %v", m, right)
	}
	words := 0
	for _, o := range m.Ops {
		if right {
			words += len(o.P)
		}
	}
	if got := impl.ModelOk(m); got != right {
		t.Errorf("ModelOk(%.200v) is %v", m, got)
	}
	if gotIn, gotOut := impl.InOf(m), impl.OutOf(m); gotIn != in || gotOut != out {
		t.Errorf("InOf and OutOf of %.200v are %d and %d, want %d and %d", m, gotIn, gotOut, in, out)
	}
	if got := impl.WordsOf(m); got != words {
		t.Errorf("WordsOf(%.200v) = %d, want %d", m, got, words)
	}
	checkBatches(t, m, right)
}

// checkBatches asks with batches that would fit to the first and the last operation, and where there are none, with any.
func checkBatches(t *testing.T, m impl.Model, right bool) {
	t.Helper()
	in, out := 1, 1
	if len(m.Ops) > 0 {
		in, out = m.Ops[0].In, m.Ops[len(m.Ops)-1].Out
	}
	if impl.BatchOk(m, nil) || impl.BatchOk(m, []impl.Pair{}) || impl.BatchOk(m, []impl.Pair{{}}) || impl.BatchOk(m, make([]impl.Pair, impl.MaxMicro)) {
		t.Errorf("BatchOk(%.200v) is true of a batch without pairs, or without numbers", m)
	}
	if in < 1 || in > impl.MaxDim || out < 1 || out > impl.MaxDim {
		in, out = 1, 1
	}
	for count := 1; count <= impl.MaxMicro+1; count++ {
		b := batchFor(in, out, count)
		if got := impl.BatchOk(m, b); got != (right && count <= impl.MaxMicro) {
			t.Errorf("BatchOk(%.200v, %v) is %v", m, b, got)
		}
	}
}

func TestModelConstants(t *testing.T) {
	if impl.MaxOps != 8 || impl.MaxMicro != 5 {
		t.Errorf("MaxOps = %d, MaxMicro = %d", impl.MaxOps, impl.MaxMicro)
	}
}

func TestModels(t *testing.T) {
	eachModel(func(m impl.Model) { checkModel(t, m, true) })
}

func TestModelsOfOneOperation(t *testing.T) {
	eachOp(func(o impl.Op) {
		m := model(o)
		if !impl.ModelOk(m) || impl.InOf(m) != o.In || impl.OutOf(m) != o.Out || impl.WordsOf(m) != sizeOf(o.Kind, o.In, o.Out) {
			t.Fatalf("of %v: %v, %d, %d, %d", m, impl.ModelOk(m), impl.InOf(m), impl.OutOf(m), impl.WordsOf(m))
		}
	})
	for _, o := range wrongOps() {
		checkModel(t, model(o), false)
	}
}

func TestModelsOfNoneAndOfTooManyOperations(t *testing.T) {
	for _, ops := range [][]impl.Op{nil, {}, make([]impl.Op, 0, 4), slices.Repeat([]impl.Op{op(impl.OpRelu, 1)}, 4)[:0]} {
		checkModel(t, impl.Model{Ops: ops}, false)
	}
	for _, kind := range opKinds {
		for size := 1; size <= impl.MaxDim; size++ {
			for count := 1; count <= 2*impl.MaxOps+1; count++ {
				checkModel(t, impl.Model{Ops: slices.Repeat([]impl.Op{filled(kind, size, size, one)}, count)}, count <= impl.MaxOps)
			}
		}
	}
	checkModel(t, impl.Model{Ops: slices.Repeat([]impl.Op{op(impl.OpRelu, 1)}, 100000)}, false)
	checkModel(t, impl.Model{Ops: slices.Repeat([]impl.Op{op(impl.OpRelu, 1)}, 256+1)}, false)
	// What stands behind its end is no part of a model.
	whole := slices.Repeat([]impl.Op{op(impl.OpBias, 1, one)}, impl.MaxOps+3)
	whole[impl.MaxOps-1] = impl.Op{}
	checkModel(t, impl.Model{Ops: whole[:impl.MaxOps-1]}, true)
	checkModel(t, impl.Model{Ops: whole[:impl.MaxOps]}, false)
}

// eachPlace calls f with each number of operations, and each place of one of them.
func eachPlace(f func(count, at int)) {
	for count := 1; count <= impl.MaxOps; count++ {
		for at := range count {
			f(count, at)
		}
	}
}

func TestModelsWhoseOperationsDoNotFit(t *testing.T) {
	eachPlace(func(count, at int) {
		if at == 0 {
			return
		}
		eachSize(func(ahead, behind int) {
			for i, kind := range opKinds {
				other := opKinds[(i+at)%len(opKinds)]
				m := impl.Model{Ops: append(slices.Repeat([]impl.Op{filled(kind, ahead, ahead, one)}, at), slices.Repeat([]impl.Op{filled(other, behind, behind, one)}, count-at)...)}
				checkModel(t, m, ahead == behind)
			}
		})
	})
}

func TestModelsOfWhichOneOperationFitsToOneSideAlone(t *testing.T) {
	eachPlace(func(count, at int) {
		for _, size := range []int{1, 3, impl.MaxDim} {
			for n := 1; n <= impl.MaxDim; n++ {
				for _, o := range []impl.Op{filled(impl.OpDense, size, n, one), filled(impl.OpDense, n, size, one)} {
					m := impl.Model{Ops: slices.Repeat([]impl.Op{filled(impl.OpRes, size, size, one)}, count)}
					m.Ops[at] = o
					// At an end of the chain what is not the size of others may come out, or go in.
					fits := (at == 0 || o.In == size) && (at == count-1 || o.Out == size)
					checkModel(t, m, fits)
				}
			}
		}
	})
}

func TestModelsWithOneOperationThatIsNotRight(t *testing.T) {
	wrong := []impl.Op{
		{}, op(0, 2), op(6, 2), op(-1, 2), op(math.MaxInt, 2), op(1<<32+impl.OpRelu, 2),
		op(impl.OpRelu, 2, one), op(impl.OpRelu, 2, 0), op(impl.OpBias, 2), op(impl.OpBias, 2, one), op(impl.OpBias, 2, one, one, one),
		op(impl.OpScale, 2), op(impl.OpScale, 2, one, one), op(impl.OpDense, 2), op(impl.OpDense, 2, one, one, one), op(impl.OpDense, 2, one, one, one, one, one),
		op(impl.OpRes, 2, one, one, one), op(impl.OpRes, 2, one, one, one, one, one),
		op(impl.OpBias, 2, one, most+1), op(impl.OpBias, 2, -most-1, one), op(impl.OpScale, 2, math.MinInt), op(impl.OpRes, 2, one, one, one, most+1), op(impl.OpDense, 2, one, one, math.MaxInt, one),
	}
	eachPlace(func(count, at int) {
		for _, o := range wrong {
			for _, kind := range opKinds {
				m := impl.Model{Ops: slices.Repeat([]impl.Op{filled(kind, 2, 2, one)}, count)}
				checkModel(t, m, true)
				m.Ops[at] = o
				checkModel(t, m, false)
			}
		}
	})
	// Sizes out of the range on both sides of a place do not make it right.
	for _, n := range []int{0, -1, impl.MaxDim + 1, math.MaxInt, math.MinInt} {
		for _, kind := range opKinds {
			for _, in := range []int{1, n} {
				checkModel(t, model(impl.Op{Kind: impl.OpDense, In: in, Out: n}, op(kind, n), impl.Op{Kind: impl.OpDense, In: n, Out: in}), false)
				checkModel(t, model(impl.Op{Kind: impl.OpDense, In: in, Out: n}, impl.Op{Kind: impl.OpDense, In: n, Out: in}), false)
			}
		}
	}
}

// eachOpList calls f with each list of as many of the operations, in each order, some more than once.
func eachOpList(ops []impl.Op, count int, l []impl.Op, f func(l []impl.Op)) {
	if count == 0 {
		f(l)
		return
	}
	for _, o := range ops {
		eachOpList(ops, count-1, append(l, o), f)
	}
}

func TestModelsOfFewOperationsInEachOrder(t *testing.T) {
	ops := []impl.Op{
		dense(1, 2, one, one), dense(2, 1, one, one), op(impl.OpRelu, 1), op(impl.OpRelu, 2), op(impl.OpScale, 2, one), filled(impl.OpRes, 2, 2, one),
		dense(2, 3, one, one, one, one, one, one), dense(3, 1, one, one, one),
		op(impl.OpRelu, 2, one), dense(1, 2, one, most+1), {Kind: impl.OpBias, In: 1, Out: 2, P: []int{one}}, {},
	}
	right := 0
	for count := range 5 {
		eachOpList(ops, count, nil, func(l []impl.Op) {
			m := impl.Model{Ops: l}
			in, out := wantModel(m)
			if impl.ModelOk(m) != (in > 0) || impl.InOf(m) != in || impl.OutOf(m) != out {
				t.Fatalf("of %v: %v, %d, %d, want %d and %d", m, impl.ModelOk(m), impl.InOf(m), impl.OutOf(m), in, out)
			}
			if impl.BatchOk(m, batchFor(max(in, 1), max(out, 1), 1)) != (in > 0) {
				t.Fatalf("BatchOk of %v is not %v", m, in > 0)
			}
			if in > 0 {
				right++
			}
		})
	}
	if right == 0 {
		t.Error("no list was a right model")
	}
}

func TestInOfAndOutOf(t *testing.T) {
	for _, c := range []struct {
		m       impl.Model
		in, out int
	}{
		{model(dense(1, 6, 1, 2, 3, 4, 5, 6)), 1, 6}, {model(dense(6, 1, 1, 2, 3, 4, 5, 6)), 6, 1}, {model(op(impl.OpRelu, 4)), 4, 4},
		{model(dense(2, 3, 1, 2, 3, 4, 5, 6), dense(3, 1, 1, 2, 3)), 2, 1}, {model(dense(1, 3, 1, 2, 3), dense(3, 2, 1, 2, 3, 4, 5, 6)), 1, 2},
		{model(dense(1, 2, one, one), op(impl.OpRelu, 2), op(impl.OpBias, 2, 1, 1), dense(2, 5, make([]int, 10)...)), 1, 5},
		{model(op(impl.OpRelu, 3), dense(3, 2, make([]int, 6)...), op(impl.OpScale, 2, one)), 3, 2},
		// Of one that is not right each is 0, though a first and a last are there.
		{model(dense(2, 3, 1, 2, 3, 4, 5, 6), dense(2, 3, 1, 2, 3, 4, 5, 6)), 0, 0}, {model(dense(2, 3, 1, 2, 3, 4, 5)), 0, 0}, {model(dense(2, 3, 1, 2, 3, 4, 5, 6), op(impl.OpRelu, 3, 1)), 0, 0},
		{model(op(impl.OpRelu, 7)), 0, 0}, {model(op(impl.OpRelu, -1)), 0, 0}, {model(), 0, 0},
	} {
		if in, out := impl.InOf(c.m), impl.OutOf(c.m); in != c.in || out != c.out {
			t.Errorf("InOf and OutOf of %v are %d and %d, want %d and %d", c.m, in, out, c.in, c.out)
		}
	}
}

func TestWordsOf(t *testing.T) {
	for _, c := range []struct {
		m    impl.Model
		want int
	}{
		{model(op(impl.OpRelu, 1)), 0}, {impl.Model{Ops: slices.Repeat([]impl.Op{op(impl.OpRelu, 6)}, impl.MaxOps)}, 0}, {model(op(impl.OpScale, 6, 0)), 1}, {model(op(impl.OpBias, 6, 0, 0, 0, 0, 0, 0)), 6},
		{model(op(impl.OpRelu, 2), op(impl.OpScale, 2, one), op(impl.OpRelu, 2)), 1}, {model(op(impl.OpBias, 2, 5, 6), op(impl.OpRelu, 2), dense(2, 3, 1, 2, 3, 4, 5, 6)), 8},
		{impl.Model{Ops: slices.Repeat([]impl.Op{filled(impl.OpRes, 6, 6, one)}, impl.MaxOps)}, 288}, {model(dense(1, 1, 0), filled(impl.OpRes, 1, 1, 0), op(impl.OpBias, 1, 0), op(impl.OpScale, 1, 0), op(impl.OpRelu, 1)), 4},
		// What stands behind the end of P is not counted.
		{model(op(impl.OpBias, 2, []int{1, 2, 3, 4}[:2]...), op(impl.OpScale, 2, make([]int, 1, 9)...)), 3},
		{impl.Model{Ops: slices.Repeat([]impl.Op{filled(impl.OpRes, 6, 6, one)}, impl.MaxOps+1)}, 0}, {model(), 0}, {model(op(impl.OpScale, 2, 1, 2)), 0}, {model(op(impl.OpBias, 2, 1, 2), op(impl.OpBias, 3, 1, 2, 3)), 0},
	} {
		if got := impl.WordsOf(c.m); got != c.want {
			t.Errorf("WordsOf(%v) = %d, want %d", c.m, got, c.want)
		}
	}
}

func TestBatchOk(t *testing.T) {
	m := model(dense(2, 3, 1, 2, 3, 4, 5, 6), dense(3, 1, 1, 2, 3))
	right := impl.Pair{X: []int{1, -1}, T: []int{0}}
	for _, c := range []struct {
		b    []impl.Pair
		want bool
	}{
		{[]impl.Pair{right}, true}, {[]impl.Pair{right, right}, true}, {[]impl.Pair{right, right, right, right, right}, true}, {[]impl.Pair{right, right, right, right, right, right}, false},
		{nil, false}, {[]impl.Pair{}, false}, {[]impl.Pair{right, right}[:0], false}, {[]impl.Pair{right, {}}[:1], true}, {slices.Repeat([]impl.Pair{right}, 8)[:5], true}, {slices.Repeat([]impl.Pair{right}, 100000), false},
		{[]impl.Pair{{X: []int{most, -most}, T: []int{most}}}, true}, {[]impl.Pair{{X: []int{most + 1, 0}, T: []int{0}}}, false}, {[]impl.Pair{{X: []int{0, -most - 1}, T: []int{0}}}, false}, {[]impl.Pair{{X: []int{0, 0}, T: []int{-most - 1}}}, false},
		{[]impl.Pair{{X: []int{1}, T: []int{1, 2}}}, false}, {[]impl.Pair{{X: []int{1, 2, 3}, T: []int{1}}}, false}, {[]impl.Pair{{X: []int{1, 2}, T: []int{1, 2}}}, false}, {[]impl.Pair{{X: []int{1, 2}, T: []int{1, 2, 3}}}, false},
		{[]impl.Pair{{}}, false}, {[]impl.Pair{{X: []int{1, 2}}}, false}, {[]impl.Pair{{T: []int{1}}}, false}, {[]impl.Pair{{X: []int{1, 2}, T: []int{}}}, false}, {[]impl.Pair{{X: []int{}, T: []int{1}}}, false},
	} {
		if got := impl.BatchOk(m, c.b); got != c.want {
			t.Errorf("BatchOk(%v, %.200v) is %v", m, c.b, got)
		}
	}
}

// wrongRowsFor are rows that do not fit where so many numbers are wanted, most of them for one reason.
func wrongRowsFor(size int) [][]int {
	l := [][]int{nil, {}, make([]int, 0, size), make([]int, size-1), make([]int, size+1), make([]int, impl.MaxDim+1), make([]int, size+256)}
	for n := 1; n <= impl.MaxDim; n++ {
		if n != size {
			l = append(l, slices.Repeat([]int{one}, n))
		}
	}
	for at := range size {
		for _, n := range outOfRange {
			row := slices.Repeat([]int{one}, size)
			row[at] = n
			l = append(l, row)
		}
	}
	return l
}

func TestBatchesWithOnePairThatIsNotRight(t *testing.T) {
	eachSize(func(out, in int) {
		m := model(op(impl.OpRelu, in), filled(impl.OpDense, in, out, one), op(impl.OpRelu, out))
		check := func(count, at int, change func(p *impl.Pair)) {
			b := batchFor(in, out, count)
			if !impl.BatchOk(m, b) {
				t.Fatalf("BatchOk(%v, %v) is false", m, b)
			}
			change(&b[at])
			if impl.BatchOk(m, b) {
				t.Fatalf("BatchOk(%v, %.300v) is true with pair %d", m, b, at)
			}
		}
		for count := 1; count <= impl.MaxMicro; count++ {
			for at := range count {
				for _, row := range wrongRowsFor(in) {
					check(count, at, func(p *impl.Pair) { p.X = row })
				}
				for _, row := range wrongRowsFor(out) {
					check(count, at, func(p *impl.Pair) { p.T = row })
				}
				check(count, at, func(p *impl.Pair) { *p = impl.Pair{} })
				if in != out {
					check(count, at, func(p *impl.Pair) { p.X, p.T = p.T, p.X })
				}
			}
		}
	})
}

func TestBatchesTakeAnyNumbersOfTheRange(t *testing.T) {
	eachSize(func(out, in int) {
		m := model(filled(impl.OpDense, in, out, most))
		ts := rowsOf(out)
		for i, x := range rowsOf(in) {
			if b := []impl.Pair{{X: x, T: ts[i%len(ts)]}}; !impl.BatchOk(m, b) {
				t.Fatalf("BatchOk(%v, %v) is false", m, b)
			}
		}
	})
}

func TestLossOf(t *testing.T) {
	for _, c := range []struct {
		y, t []int
		want int
		out  bool
	}{
		{[]int{0}, []int{0}, 0, false}, {[]int{one}, []int{one}, 0, false}, {[]int{most}, []int{most}, 0, false}, {[]int{1, -2, 3, most, -most, 0}, []int{1, -2, 3, most, -most, 0}, 0, false},
		{[]int{one}, []int{0}, one / 2, false}, {[]int{0}, []int{one}, one / 2, false}, {[]int{-one}, []int{one}, 2 * one, false}, {[]int{3 * one, 0}, []int{one, one}, 5 * one / 2, false},
		{[]int{2 * one, 3 * one, 4 * one}, []int{one, one, one}, 7 * one, false}, {[]int{one, one, one, one, one, one}, []int{0, 0, 0, 0, 0, 0}, 3 * one, false},
		// Products below One-ths come to nought; an odd sum is rounded down, and that of all, not each.
		{[]int{1}, []int{0}, 0, false}, {[]int{255}, []int{0}, 0, false}, {[]int{256}, []int{0}, 0, false}, {[]int{0}, []int{256}, 0, false}, {[]int{256, 256}, []int{0, 0}, 1, false}, {[]int{256, 256, 256}, []int{0, 0, 0}, 1, false}, {[]int{256, 0, 256, 0, 256, 256}, []int{0, 256, 0, 256, 0, 0}, 3, false},
		{[]int{443}, []int{0}, 1, false}, {[]int{444}, []int{0}, 1, false}, {[]int{-444}, []int{0}, 1, false}, {[]int{512}, []int{0}, 2, false}, {[]int{573}, []int{0}, 2, false}, {[]int{0, -573, 256}, []int{0, 0, 0}, 3, false},
		// Products that are just in the range, and just out of it.
		{[]int{11863283}, []int{0}, 1073741787, false}, {[]int{11863284}, []int{0}, most / 2, true}, {[]int{-11863283}, []int{0}, 1073741787, false}, {[]int{0}, []int{11863284}, most / 2, true}, {[]int{11863283, 0}, []int{-1, 0}, most / 2, true},
		// Each product is in the range, their sum is not, or just is.
		{[]int{11863283, 2202}, []int{0, 0}, most / 2, false}, {[]int{11863283, 2203}, []int{0, 0}, most / 2, true}, {[]int{0, 2203, 11863283}, []int{0, 0, 0}, most / 2, true}, {[]int{11863283, 11863283}, []int{0, 0}, most / 2, true}, {[]int{8388608, 8388608}, []int{0, 0}, most / 2, true}, {[]int{8388608, 8388607}, []int{0, 0}, 1073741696, false},
		// A difference out of the range; the mark stays where the numbers behind it are in it.
		{[]int{most}, []int{-1}, most / 2, true}, {[]int{-most}, []int{1}, most / 2, true}, {[]int{most, 0}, []int{-most, 0}, most / 2, true}, {[]int{0, 0, most}, []int{0, 0, -most}, most / 2, true}, {[]int{-most, one}, []int{most, one}, most / 2, true},
		{[]int{300 * one, one, one}, []int{0, one, one}, most / 2, true}, {[]int{one, one, 300 * one}, []int{one, one, 0}, most / 2, true}, {[]int{181 * one, 0}, []int{0, 0}, 16380*one + one/2, false}, {[]int{182 * one, 0}, []int{0, 0}, most / 2, true},
	} {
		got, out := impl.LossOf(c.y, c.t)
		if want, wantOut := wantLoss(c.y, c.t); want != c.want || wantOut != c.out {
			t.Errorf("the test wants %d, %v of LossOf(%v, %v), which is %d, %v", c.want, c.out, c.y, c.t, want, wantOut)
		}
		if got != c.want || out != c.out {
			t.Errorf("LossOf(%v, %v) = %d, %v, want %d, %v", c.y, c.t, got, out, c.want, c.out)
		}
	}
}

// wantLoss goes step by step with numbers that do not run over.
func wantLoss(y, t []int) (int, bool) {
	sum, marked := 0, false
	for i := range y {
		off, outOff := bigInto(big.NewInt(int64(y[i]) - int64(t[i])))
		square := big.NewInt(int64(off) * int64(off))
		product, outBy := bigInto(square.Div(square, big.NewInt(one)))
		var out bool
		sum, out = bigInto(big.NewInt(int64(sum) + int64(product)))
		marked = marked || outOff || outBy || out
	}
	return sum / 2, marked
}

func TestALossIsNeverBelowNought(t *testing.T) {
	eachTwoRows(func(a, b []int) {
		want, wantOut := wantLoss(a, b)
		got, out := impl.LossOf(a, b)
		if got != want || out != wantOut {
			t.Fatalf("LossOf(%v, %v) = %d, %v, want %d, %v", a, b, got, out, want, wantOut)
		}
		if got < 0 || !impl.FixOk(2*got) {
			t.Fatalf("LossOf(%v, %v) = %d", a, b, got)
		}
		if about, aboutOut := impl.LossOf(b, a); about != got || aboutOut != out {
			t.Fatalf("LossOf(%v, %v) = %d, %v, but turned about %d, %v", a, b, got, out, about, aboutOut)
		}
	})
	for size := 1; size <= impl.MaxDim; size++ {
		for _, row := range rowsOf(size) {
			for _, like := range [][]int{row, slices.Clone(row)} {
				if got, out := impl.LossOf(row, like); got != 0 || out {
					t.Fatalf("LossOf(%v) and its like = %d, %v", row, got, out)
				}
			}
		}
	}
}

func TestLossOfRowsThatAreNotRight(t *testing.T) {
	none := func(y, to []int) {
		t.Helper()
		for _, c := range [][2][]int{{y, to}, {to, y}} {
			if got, out := impl.LossOf(c[0], c[1]); got != 0 || out {
				t.Errorf("LossOf(%.60v, %.60v) = %d, %v, want none", c[0], c[1], got, out)
			}
		}
	}
	for _, wrong := range wrongRows() {
		none(wrong, wrong)
		none(wrong, nil)
		none(wrong, []int{})
		for _, n := range []int{0, -1, most, -most} {
			// As many as the wrong one has, so that this alone is why.
			none(wrong, slices.Repeat([]int{n}, max(len(wrong), 1)))
			none(wrong, []int{n})
		}
	}
	for short := 1; short <= impl.MaxDim; short++ {
		for long := short + 1; long <= impl.MaxDim+1; long++ {
			for _, n := range []int{0, one, most, -most} {
				b := slices.Repeat([]int{n}, long)
				none(slices.Repeat([]int{-n}, short), b)
				none(b[:short], b)
			}
		}
	}
}

func rows(l ...[]int) []impl.Row {
	made := make([]impl.Row, len(l))
	for i, v := range l {
		made[i].V = v
	}
	return made
}

func TestSameRows(t *testing.T) {
	for _, c := range []struct {
		a, b []impl.Row
		want bool
	}{
		{nil, nil, true}, {nil, []impl.Row{}, true}, {[]impl.Row{}, []impl.Row{}, true}, {nil, make([]impl.Row, 0, 4), true}, {nil, rows([]int{1})[:0], true},
		{nil, []impl.Row{{}}, false}, {[]impl.Row{{}}, rows([]int{}), true}, {rows(nil, nil), rows([]int{}, nil), true}, {rows(nil, nil), rows(nil), false}, {rows(nil), rows([]int{0}), false}, {rows([]int{}), rows([]int{0}), false},
		{rows([]int{1}), rows([]int{1}), true}, {rows([]int{1}), rows([]int{2}), false}, {rows([]int{1}), rows([]int{-1}), false}, {rows([]int{1}), rows([]int{1}, []int{1}), false}, {rows([]int{1}), rows([]int{1}, nil), false},
		{rows([]int{1, 2}), rows([]int{1}, []int{2}), false}, {rows([]int{1, 2}, []int{3}), rows([]int{1}, []int{2, 3}), false}, {rows([]int{1}, []int{2}), rows([]int{2}, []int{1}), false}, {rows([]int{1, 2}), rows([]int{2, 1}), false},
		{rows([]int{1}, nil), rows(nil, []int{1}), false}, {rows([]int{1, 2}, []int{3}, nil), rows([]int{1, 2}, []int{3}, []int{}), true}, {rows([]int{1}, []int{2}, []int{3}), rows([]int{1}, []int{2}, []int{4}), false},
		// What is not right is taken as it is.
		{rows([]int{most + 1}), rows([]int{most + 1}), true}, {rows([]int{most + 1}), rows([]int{most}), false}, {rows([]int{math.MinInt}), rows([]int{math.MaxInt}), false}, {rows([]int{1 << 32}), rows([]int{0}), false},
		{rows(make([]int, 7)), rows(make([]int, 7)), true}, {rows(make([]int, 7)), rows(make([]int, 8)), false}, {rows(make([]int, 1000)), rows(make([]int, 1000)), true},
		{make([]impl.Row, 1000), make([]impl.Row, 1000), true}, {make([]impl.Row, 1000), make([]impl.Row, 1001), false}, {make([]impl.Row, 256), nil, false},
		// What stands behind an end is no part of it.
		{rows([]int{1}, []int{2})[:1], rows([]int{1}, []int{3})[:1], true}, {rows([]int{1, 2}[:1]), rows([]int{1, 3}[:1]), true},
	} {
		if impl.SameRows(c.a, c.b) != c.want || impl.SameRows(c.b, c.a) != c.want {
			t.Errorf("SameRows(%.60v, %.60v) is not %v", c.a, c.b, c.want)
		}
	}
}

func cloneRows(l []impl.Row) []impl.Row {
	made := slices.Clone(l)
	for i := range made {
		made[i].V = slices.Clone(made[i].V)
	}
	return made
}

func TestSameRowsHoldsEachNumberAgainstTheOther(t *testing.T) {
	for _, sizes := range [][]int{{1}, {6}, {0}, {1, 1}, {3, 0, 2}, {0, 0}, {36, 6, 0, 1, 36, 2, 2, 1}, {7, 100}} {
		var l []impl.Row
		for i, size := range sizes {
			l = append(l, impl.Row{V: slices.Repeat([]int{i + 1}, size)})
		}
		if !impl.SameRows(l, l) || !impl.SameRows(l, cloneRows(l)) {
			t.Errorf("SameRows(%v) and its like is false", l)
		}
		differs := func(change func(other []impl.Row) []impl.Row) {
			t.Helper()
			other := change(cloneRows(l))
			if impl.SameRows(l, other) || impl.SameRows(other, l) {
				t.Errorf("SameRows(%v, %v) is true", l, other)
			}
		}
		differs(func(other []impl.Row) []impl.Row { return other[:len(l)-1] })
		differs(func(other []impl.Row) []impl.Row { return append(other, impl.Row{}) })
		for i, size := range sizes {
			differs(func(other []impl.Row) []impl.Row {
				other[i].V = append(other[i].V, 0)
				return other
			})
			for at := range size {
				differs(func(other []impl.Row) []impl.Row {
					other[i].V[at] ^= 1
					return other
				})
				differs(func(other []impl.Row) []impl.Row {
					other[i].V = slices.Delete(other[i].V, at, at+1)
					return other
				})
			}
		}
	}
}

// withRoom is the list with room behind it, in which marks stand.
func withRoom[T any](l []T, mark T) []T {
	return append(slices.Clone(l), mark, mark, mark)[:len(l)]
}

func roomyRow(row []int) []int {
	part, _ := roomy(row)
	return part
}

// wholeRow, wholeModel, wholeBatch and wholeRows are copies of all that a thing holds, with the room behind each of its lists.
func wholeRow(row []int) []int { return slices.Clone(row[:cap(row)]) }

func wholeModel(m impl.Model) impl.Model {
	made := impl.Model{Ops: slices.Clone(m.Ops[:cap(m.Ops)])}
	for i, o := range made.Ops {
		made.Ops[i].P = wholeRow(o.P)
	}
	return made
}

func wholeBatch(b []impl.Pair) []impl.Pair {
	made := slices.Clone(b[:cap(b)])
	for i, p := range made {
		made[i] = impl.Pair{X: wholeRow(p.X), T: wholeRow(p.T)}
	}
	return made
}

func wholeRows(l []impl.Row) []impl.Row {
	made := slices.Clone(l[:cap(l)])
	for i, r := range made {
		made[i].V = wholeRow(r.V)
	}
	return made
}

// roomyModel, roomyBatch and roomyRows have room behind each list, in which marks stand.
func roomyModel(m impl.Model) impl.Model {
	made := impl.Model{Ops: withRoom(m.Ops, op(impl.OpRelu, 1))}
	for i, o := range made.Ops {
		made.Ops[i].P = roomyRow(o.P)
	}
	return made
}

func roomyBatch(b []impl.Pair) []impl.Pair {
	made := withRoom(b, impl.Pair{X: []int{71}, T: []int{72}})
	for i, p := range made {
		made[i] = impl.Pair{X: roomyRow(p.X), T: roomyRow(p.T)}
	}
	return made
}

func roomyRows(l []impl.Row) []impl.Row {
	made := withRoom(l, impl.Row{V: []int{71}})
	for i, r := range made {
		made[i].V = roomyRow(r.V)
	}
	return made
}

func TestWhatIsAskedOfModelsWritesIntoNone(t *testing.T) {
	check := func(m impl.Model, in, out, count int) {
		t.Helper()
		m, b := roomyModel(m), roomyBatch(batchFor(in, out, count))
		wasM, wasB := wholeModel(m), wholeBatch(b)
		impl.ModelOk(m)
		impl.InOf(m)
		impl.OutOf(m)
		impl.WordsOf(m)
		impl.BatchOk(m, b)
		if !reflect.DeepEqual(wholeModel(m), wasM) || !reflect.DeepEqual(wholeBatch(b), wasB) {
			t.Fatalf("asked of a model and a batch: wrote into what was handed in: %v, %v", wholeModel(m), wholeBatch(b))
		}
	}
	eachModel(func(m impl.Model) {
		for count := range impl.MaxMicro + 2 {
			check(m, impl.InOf(m), impl.OutOf(m), count)
		}
	})
	for _, o := range wrongOps() {
		check(model(op(impl.OpRelu, 1), o), 1, 1, 2)
	}
	check(impl.Model{Ops: slices.Repeat([]impl.Op{op(impl.OpRelu, 1)}, impl.MaxOps+1)}, 1, 1, 1)
	check(impl.Model{}, 1, 1, 1)
}

func TestWhatIsAskedOfRowsOfNumbersWritesIntoNone(t *testing.T) {
	eachTwoRows(func(a, b []int) {
		y, to := roomyRow(a), roomyRow(b)
		listA, listB := roomyRows(rows(a, nil, b)), roomyRows(rows(a, nil, a))
		wasA, wasB := wholeRows(listA), wholeRows(listB)
		impl.LossOf(y, to)
		impl.SameRows(listA, listB)
		if !slices.Equal(y, a) || !slices.Equal(to, b) || !slices.Equal(wholeRow(y), wholeRow(roomyRow(a))) || !slices.Equal(wholeRow(to), wholeRow(roomyRow(b))) {
			t.Fatalf("LossOf(%v, %v) wrote into what was handed in: %v, %v", a, b, wholeRow(y), wholeRow(to))
		}
		if !reflect.DeepEqual(wholeRows(listA), wasA) || !reflect.DeepEqual(wholeRows(listB), wasB) {
			t.Fatalf("SameRows wrote into what was handed in: %v, %v", wholeRows(listA), wholeRows(listB))
		}
	})
	row := []int{3 * one, -5 * one}
	if got, out := impl.LossOf(row, row); got != 0 || out || !slices.Equal(row, []int{3 * one, -5 * one}) {
		t.Errorf("LossOf of %v twice = %d, %v", row, got, out)
	}
}
