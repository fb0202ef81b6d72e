package tests

import (
	"fmt"
	"math"
	"math/big"
	"slices"
	"testing"

	"loop.example/g01407/impl"
)

func pair(x, t []int) impl.Pair { return impl.Pair{X: x, T: t} }

func grads(loss int, sat bool, l ...[]int) impl.Grads {
	return impl.Grads{Rows: rows(l...), Loss: loss, Sat: sat}
}

// alike holds each field against the other; an empty row and nil are the same.
func alike(a, b impl.Grads) bool {
	return alikeRows(a.Rows, b.Rows) && a.Loss == b.Loss && a.Sat == b.Sat
}

func alikeRows(a, b []impl.Row) bool {
	return slices.EqualFunc(a, b, func(x, y impl.Row) bool { return slices.Equal(x.V, y.V) })
}

func isZeroGrads(g impl.Grads) bool { return len(g.Rows) == 0 && g.Loss == 0 && !g.Sat }

// gentleNumbers are so near to nought that no step of a chain runs over.
var gentleNumbers = []int{one / 16, -one / 16, one / 32, 0, -one / 32, 5, one / 17, -7}

// gentleModel is as chainOf, but with gentleNumbers as P.
func gentleModel(count, first, by, step int) impl.Model {
	m := chainOf(count, first, by, step)
	for i, o := range m.Ops {
		for at := range o.P {
			m.Ops[i].P[at] = gentleNumbers[(first+i+at*(by+1))%len(gentleNumbers)]
		}
	}
	return m
}

func gentleRow(size, begin int) []int {
	row := make([]int, size)
	for i := range row {
		row[i] = ((begin+5*i)%7 - 3) * one / 2
	}
	return row
}

func gentleBatch(in, out, count int) []impl.Pair {
	b := make([]impl.Pair, count)
	for i := range b {
		b[i] = pair(gentleRow(in, 3*i+out), gentleRow(out, 2*i+in))
	}
	return b
}

// eachBatch calls f with many right models and a right batch of each count: some with steps that run over, others, where gentle is true, without.
func eachBatch(f func(m impl.Model, b []impl.Pair, gentle bool)) {
	for count := 1; count <= impl.MaxOps; count++ {
		for first := range opKinds {
			for by := range opKinds {
				for _, step := range []int{0, 1, 2, 5} {
					m, gentle := chainOf(count, first, by, step), gentleModel(count, first, by, step)
					in, out := wantModel(m)
					pairs := 1 + (count+first+by+step)%impl.MaxMicro
					f(m, batchFor(in, out, pairs), false)
					f(gentle, batchFor(in, out, impl.MaxMicro+1-pairs), false)
					f(gentle, gentleBatch(in, out, pairs), true)
				}
			}
		}
	}
}

// wantInputs goes ahead in the words of chapters 3 and 4.
func wantInputs(m impl.Model, x []int) ([]impl.Row, bool) {
	l, marked := rows(x), false
	for i, o := range m.Ops {
		row, out := wantAhead(o, l[i].V)
		l = append(l, impl.Row{V: row})
		marked = marked || out
	}
	return l, marked
}

// wantMicro goes back by calling itself for what stands behind the first operation.
func wantMicro(m impl.Model, p impl.Pair) impl.Grads {
	_, g := wantOnAndGrads(m.Ops, p)
	return g
}

func wantOnAndGrads(ops []impl.Op, p impl.Pair) ([]int, impl.Grads) {
	if len(ops) == 0 {
		loss, out := wantLoss(p.X, p.T)
		d, _ := impl.VecSub(p.X, p.T)
		return d, impl.Grads{Loss: loss, Sat: out}
	}
	ahead, outAhead := wantAhead(ops[0], p.X)
	d, g := wantOnAndGrads(ops[1:], pair(ahead, p.T))
	on, row, outBack := wantBack(ops[0], p.X, d)
	g.Rows = append(rows(row), g.Rows...)
	g.Sat = g.Sat || outAhead || outBack
	return on, g
}

func wantSum(a, b impl.Grads) impl.Grads {
	sat := a.Sat || b.Sat
	add := func(x, y int) int {
		n, out := bigInto(new(big.Int).Add(bigOf(x), bigOf(y)))
		sat = sat || out
		return n
	}
	sum := impl.Grads{Loss: add(a.Loss, b.Loss)}
	for i := 0; i < len(a.Rows) && i < len(b.Rows); i++ {
		var row []int
		for at := 0; at < len(a.Rows[i].V) && at < len(b.Rows[i].V); at++ {
			row = append(row, add(a.Rows[i].V[at], b.Rows[i].V[at]))
		}
		sum.Rows = append(sum.Rows, impl.Row{V: row})
	}
	sum.Sat = sat
	return sum
}

// brief is the beginning of a thing as text.
func brief(v any) string {
	s := fmt.Sprint(v)
	return s[:min(len(s), 300)]
}

func noughts(m impl.Model) impl.Grads {
	var g impl.Grads
	for _, o := range m.Ops {
		g.Rows = append(g.Rows, impl.Row{V: make([]int, sizeOf(o.Kind, o.In, o.Out))})
	}
	return g
}

// eachWrongModel calls f with models that are not right, and a pair that would fit to their ends where anything does.
func eachWrongModel(f func(m impl.Model, p impl.Pair)) {
	ended := func(m impl.Model) {
		in, out := 1, 1
		if len(m.Ops) > 0 {
			in, out = m.Ops[0].In, m.Ops[len(m.Ops)-1].Out
		}
		if in < 1 || in > impl.MaxDim || out < 1 || out > impl.MaxDim {
			in, out = 1, 1
		}
		f(m, pair(slices.Repeat([]int{one}, in), slices.Repeat([]int{2}, out)))
	}
	for _, o := range wrongOps() {
		ended(model(o))
		if o.In == 1 || o.Out == 1 {
			ended(model(op(impl.OpRelu, 1), o, op(impl.OpRelu, 1)))
		}
	}
	for _, kind := range opKinds {
		for _, size := range []int{1, 2, impl.MaxDim} {
			ended(impl.Model{Ops: slices.Repeat([]impl.Op{filled(kind, size, size, one)}, impl.MaxOps+1)})
			ended(model(filled(kind, size, size, one), op(impl.OpRelu, size%impl.MaxDim+1)))
		}
		ended(model(filled(impl.OpBias, 2, 2, most+1), filled(kind, 2, 2, one)))
		ended(model(filled(kind, 2, 2, one), filled(impl.OpBias, 2, 2, -most-1)))
	}
	for _, m := range []impl.Model{{}, {Ops: []impl.Op{}}, {Ops: slices.Repeat([]impl.Op{op(impl.OpRelu, 1)}, 10000)}, model(op(impl.OpBias, 2, one, one), dense(3, 2, 1, 2, 3, 4, 5, 6))} {
		ended(m)
	}
}

func TestZeroGrads(t *testing.T) {
	for _, c := range []struct {
		m    impl.Model
		want impl.Grads
	}{
		{model(dense(2, 3, 1, 2, 3, 4, 5, 6)), grads(0, false, make([]int, 6))}, {model(op(impl.OpBias, 3, 1, 2, 3)), grads(0, false, []int{0, 0, 0})}, {model(op(impl.OpRelu, 4)), grads(0, false, nil)},
		{model(op(impl.OpScale, 5, most)), grads(0, false, []int{0})}, {model(filled(impl.OpRes, 6, 6, -most)), grads(0, false, make([]int, 36))},
		{model(op(impl.OpRelu, 2), op(impl.OpScale, 2, one), op(impl.OpRelu, 2), dense(2, 1, one, one)), grads(0, false, nil, []int{0}, nil, []int{0, 0})},
		// What stands behind the end of P is no part of it.
		{model(op(impl.OpBias, 2, []int{1, 2, 3, 4}[:2]...)), grads(0, false, []int{0, 0})},
	} {
		if got := impl.ZeroGrads(c.m); !alike(got, c.want) {
			t.Errorf("ZeroGrads(%v) = %v, want %v", c.m, got, c.want)
		}
	}
	eachModel(func(m impl.Model) {
		if got := impl.ZeroGrads(m); !alike(got, noughts(m)) || len(got.Rows) != len(m.Ops) {
			t.Fatalf("ZeroGrads(%v) = %v", m, got)
		}
	})
	eachOp(func(o impl.Op) {
		if got := impl.ZeroGrads(model(o)); !alike(got, noughts(model(o))) {
			t.Fatalf("ZeroGrads of %v = %v", o, got)
		}
	})
}

func TestModelsThatAreNotRightHaveNoGradients(t *testing.T) {
	eachWrongModel(func(m impl.Model, p impl.Pair) {
		if impl.ModelOk(m) {
			t.Fatalf("the test holds %s to be wrong", brief(m))
		}
		if got := impl.ZeroGrads(m); !isZeroGrads(got) {
			t.Errorf("ZeroGrads(%s) = %v, want none", brief(m), got)
		}
		for _, x := range [][]int{p.X, {}, nil} {
			if got, out := impl.Inputs(m, x); len(got) != 0 || out {
				t.Errorf("Inputs(%s, %v) = %v, %v, want none", brief(m), x, got, out)
			}
		}
		for _, p := range []impl.Pair{p, {}, pair(p.X, nil), pair(nil, p.T)} {
			if got := impl.MicroGrads(m, p); !isZeroGrads(got) {
				t.Errorf("MicroGrads(%s, %v) = %v, want none", brief(m), p, got)
			}
			for count := range impl.MaxMicro + 2 {
				if got := impl.Sequential(m, slices.Repeat([]impl.Pair{p}, count)); !isZeroGrads(got) {
					t.Errorf("Sequential(%s, %d of %v) = %v, want none", brief(m), count, p, got)
				}
			}
		}
	})
}

func TestAddGrads(t *testing.T) {
	for _, c := range []struct{ a, b, want impl.Grads }{
		{impl.Grads{}, impl.Grads{}, impl.Grads{}}, {grads(1, false, []int{2}), grads(10, false, []int{20}), grads(11, false, []int{22})},
		{grads(1, false, []int{1, -2}, nil, []int{3}), grads(2, false, []int{10, 20}, []int{}, []int{-3}), grads(3, false, []int{11, 18}, nil, []int{0})},
		{grads(5, false), grads(-7, false), grads(-2, false)},
		// As far as both go, whichever goes farther.
		{grads(1, false, []int{1}, []int{2}), grads(2, false, []int{3}), grads(3, false, []int{4})}, {grads(1, false, []int{1, 2, 3}), grads(2, false, []int{4, 5}), grads(3, false, []int{5, 7})},
		{grads(1, false, []int{1, 2}, []int{3}), grads(2, false, []int{4}, []int{5, 6}), grads(3, false, []int{5}, []int{8})}, {grads(1, false, nil, []int{1}), grads(2, false, []int{1}, nil), grads(3, false, nil, nil)},
		{grads(1, false, []int{1}), grads(2, false), grads(3, false)}, {grads(1, false, []int{1}), impl.Grads{Loss: 2, Rows: []impl.Row{}}, grads(3, false)}, {grads(0, false, []int{1}), impl.Grads{}, impl.Grads{}},
		{grads(0, false, nil, nil), grads(0, false, nil, nil, nil), grads(0, false, nil, nil)},
		// Sat of one of both, or a sum that is out of the range, and just there.
		{grads(0, true), grads(0, false), grads(0, true)}, {grads(0, true), grads(0, true), grads(0, true)}, {grads(0, true, []int{1}), impl.Grads{}, grads(0, true)},
		{grads(most, false), grads(1, false), grads(most, true)}, {grads(most-1, false), grads(1, false), grads(most, false)}, {grads(-most, false), grads(-1, false), grads(-most, true)}, {grads(1-most, false), grads(-1, false), grads(-most, false)},
		{grads(0, false, []int{most}), grads(0, false, []int{1}), grads(0, true, []int{most})}, {grads(0, false, []int{-most}), grads(0, false, []int{-1}), grads(0, true, []int{-most})}, {grads(0, false, []int{most}), grads(0, false, []int{-most}), grads(0, false, []int{0})},
		{grads(0, false, []int{1}, []int{most, 2}, []int{3}), grads(0, false, []int{1}, []int{1, 2}, []int{3}), grads(0, true, []int{2}, []int{most, 4}, []int{6})}, {grads(0, false, []int{5}, []int{6}, []int{7, -most}), grads(0, false, []int{5}, []int{6}, []int{7, -1}), grads(0, true, []int{10}, []int{12}, []int{14, -most})},
		// Beyond where both go nothing is added, so that nothing is out of the range there.
		{grads(0, false, []int{0, most}), grads(0, false, []int{0}), grads(0, false, []int{0})}, {grads(0, false, []int{0}, []int{most + 1}), grads(0, false, []int{0}), grads(0, false, []int{0})},
		// What is out of the range is taken into it first; the sum tells alone.
		{grads(most+1, false), grads(0, false), grads(most, false)}, {grads(math.MaxInt, false), grads(math.MinInt, false), grads(0, false)}, {grads(math.MaxInt, false), grads(math.MaxInt, false), grads(most, true)},
		{grads(0, false, []int{math.MinInt, most + 1}), grads(0, false, []int{0, -1}), grads(0, false, []int{-most, most - 1})}, {grads(0, false, []int{math.MinInt}), grads(0, false, []int{-1}), grads(0, true, []int{-most})},
		// More numbers than a vector has, and none.
		{grads(0, false, slices.Repeat([]int{2}, 36)), grads(0, false, slices.Repeat([]int{3}, 36)), grads(0, false, slices.Repeat([]int{5}, 36))}, {grads(0, false, make([]int, 1000)), grads(0, false, make([]int, 999)), grads(0, false, make([]int, 999))},
		{impl.Grads{Rows: make([]impl.Row, 1000)}, impl.Grads{Rows: make([]impl.Row, 257)}, impl.Grads{Rows: make([]impl.Row, 257)}},
		// What stands behind an end is no part of it.
		{grads(0, false, []int{1, most}[:1]), grads(0, false, []int{1, most}[:1]), grads(0, false, []int{2})},
	} {
		if want := wantSum(c.a, c.b); !alike(want, c.want) {
			t.Errorf("the test wants %v of AddGrads(%v, %v), which is %v", c.want, c.a, c.b, want)
		}
		if got := impl.AddGrads(c.a, c.b); !alike(got, c.want) {
			t.Errorf("AddGrads(%v, %v) = %v, want %v", c.a, c.b, got, c.want)
		}
		if got := impl.AddGrads(c.b, c.a); !alike(got, c.want) {
			t.Errorf("AddGrads(%v, %v) = %v, want %v", c.b, c.a, got, c.want)
		}
	}
}

func TestAddGradsGoesOneByOne(t *testing.T) {
	numbers := append(slices.Clone(rowNumbers), outOfRange...)
	for _, x := range numbers {
		for i, y := range numbers {
			// Each two numbers at each place: as Loss, and in a first, an inner and a last row.
			for at := range 7 {
				a, b := grads(7, false, []int{1, 2}, []int{3, 4, 5}, []int{6}), grads(8, i%5 == 4, []int{1, 2}, []int{9, 10, 11, 12}, []int{6})
				place(&a, at, x)
				place(&b, at, y)
				if got, want := impl.AddGrads(a, b), wantSum(a, b); !alike(got, want) {
					t.Fatalf("AddGrads(%v, %v) = %v, want %v", a, b, got, want)
				}
			}
		}
	}
}

// place puts n at a place of three rows, of which 2, 3 and 1 numbers are counted, or at the place behind these, Loss.
func place(g *impl.Grads, at, n int) {
	for i, size := range []int{2, 3, 1} {
		if at < size {
			g.Rows[i].V[at] = n
			return
		}
		at -= size
	}
	g.Loss = n
}

func TestAddGradsGoesAsFarAsBothGo(t *testing.T) {
	shapes := [][]int{nil, {0}, {1}, {2}, {0, 0}, {1, 1}, {1, 2}, {2, 1}, {0, 3}, {3, 0}, {6, 36, 0, 1}, {36, 6, 1, 0}, {1, 1, 1, 1, 1, 1, 1, 1}, {2, 2, 2, 2, 2, 2, 2, 2, 2}}
	of := func(shape []int, n int) impl.Grads {
		g := impl.Grads{Loss: n}
		for i, size := range shape {
			g.Rows = append(g.Rows, impl.Row{V: slices.Repeat([]int{n + i}, size)})
		}
		return g
	}
	for _, a := range shapes {
		for _, b := range shapes {
			for _, n := range []int{1, most - 10, -most} {
				x, y := of(a, n), of(b, 2)
				got := impl.AddGrads(x, y)
				if want := wantSum(x, y); !alike(got, want) || len(got.Rows) != min(len(a), len(b)) {
					t.Errorf("AddGrads(%v, %v) = %v, want %v", x, y, got, want)
				}
				for i, r := range got.Rows {
					if len(r.V) != min(a[i], b[i]) {
						t.Errorf("AddGrads(%v, %v) has %d numbers in row %d", x, y, len(r.V), i)
					}
				}
			}
		}
	}
}

func TestInputs(t *testing.T) {
	for _, c := range []struct {
		m    impl.Model
		x    []int
		want []impl.Row
		out  bool
	}{
		{model(op(impl.OpRelu, 2)), []int{5, -6}, rows([]int{5, -6}, []int{5, 0}), false}, {model(op(impl.OpBias, 1, 3)), []int{4}, rows([]int{4}, []int{7}), false}, {model(op(impl.OpScale, 2, -2*one)), []int{3, -4}, rows([]int{3, -4}, []int{-6, 8}), false},
		{model(dense(2, 3, one, 2*one, 3*one, 4*one, 5*one, 6*one)), []int{1, 10}, rows([]int{1, 10}, []int{21, 43, 65}), false}, {model(op(impl.OpRes, 2, 0, one, one, 0)), []int{3, 4}, rows([]int{3, 4}, []int{7, 7}), false},
		{model(op(impl.OpScale, 1, 2*one), op(impl.OpBias, 1, 5), op(impl.OpScale, 1, -one), op(impl.OpRelu, 1)), []int{1}, rows([]int{1}, []int{2}, []int{7}, []int{-7}, []int{0}), false},
		{model(dense(1, 2, one, -one), op(impl.OpRelu, 2), dense(2, 1, 3*one, 4*one)), []int{-2}, rows([]int{-2}, []int{-2, 2}, []int{0, 2}, []int{8}), false},
		{impl.Model{Ops: slices.Repeat([]impl.Op{op(impl.OpScale, 1, 2*one)}, impl.MaxOps)}, []int{1}, rows([]int{1}, []int{2}, []int{4}, []int{8}, []int{16}, []int{32}, []int{64}, []int{128}, []int{256}), false},
		{model(op(impl.OpBias, 1, 1), op(impl.OpBias, 1, -most)), []int{most}, rows([]int{most}, []int{most}, []int{0}), true}, {model(op(impl.OpBias, 1, -1), op(impl.OpBias, 1, 1)), []int{most}, rows([]int{most}, []int{most - 1}, []int{most}), false},
		// Back it would run over; ahead it does not.
		{model(op(impl.OpScale, 1, 300*one)), []int{0}, rows([]int{0}, []int{0}), false}, {model(op(impl.OpRelu, 1)), []int{-most}, rows([]int{-most}, []int{0}), false},
	} {
		if got, out := impl.Inputs(c.m, c.x); !alikeRows(got, c.want) || out != c.out {
			t.Errorf("Inputs(%v, %v) = %v, %v, want %v, %v", c.m, c.x, got, out, c.want, c.out)
		}
	}
}

func TestInputsGoThroughEachOperationInTurn(t *testing.T) {
	marked, unmarked := 0, 0
	check := func(m impl.Model, x []int) {
		t.Helper()
		want, wantOut := wantInputs(m, x)
		got, out := impl.Inputs(m, x)
		if !alikeRows(got, want) || out != wantOut || len(got) != len(m.Ops)+1 {
			t.Fatalf("Inputs(%v, %v) = %v, %v, want %v, %v", m, x, got, out, want, wantOut)
		}
		if out {
			marked++
		} else {
			unmarked++
		}
	}
	eachBatch(func(m impl.Model, b []impl.Pair, _ bool) {
		for _, p := range b {
			check(m, p.X)
		}
	})
	eachStep(func(o impl.Op, x, _ []int) { check(model(o), x) })
	if marked == 0 || unmarked == 0 {
		t.Errorf("%d were out of the range, %d were not", marked, unmarked)
	}
}

func TestInputsOfARowThatIsNotRight(t *testing.T) {
	eachModel(func(m impl.Model) {
		in, _ := wantModel(m)
		for _, x := range wrongRowsFor(in) {
			if got, out := impl.Inputs(m, x); len(got) != 0 || out {
				t.Fatalf("Inputs(%v, %v) = %v, %v, want none", m, x, got, out)
			}
		}
	})
	for _, x := range wrongRows() {
		if got, out := impl.Inputs(model(op(impl.OpRelu, 1)), x); len(got) != 0 || out {
			t.Errorf("Inputs of %s = %v, %v, want none", brief(x), got, out)
		}
	}
}

func TestMicroGradsOfOneOperation(t *testing.T) {
	for _, c := range []struct {
		o    impl.Op
		p    impl.Pair
		want impl.Grads
	}{
		{dense(1, 1, 2*one), pair([]int{3 * one}, []int{5 * one}), grads(one/2, false, []int{3 * one})}, {dense(2, 1, 2*one, -one), pair([]int{3 * one, one}, []int{4 * one}), grads(one/2, false, []int{3 * one, one})},
		{dense(1, 2, one, 2*one), pair([]int{2 * one}, []int{-one, one}), grads(9*one, false, []int{6 * one, 6 * one})}, {dense(2, 2, one, 2*one, 3*one, 4*one), pair([]int{one, -one}, []int{one, one}), grads(4*one, false, []int{-2 * one, 2 * one, -2 * one, 2 * one})},
		{op(impl.OpBias, 1, one), pair([]int{one}, []int{0}), grads(2*one, false, []int{2 * one})}, {op(impl.OpBias, 2, one, -2*one), pair([]int{5 * one, one}, []int{4 * one, 2 * one}), grads(13*one/2, false, []int{2 * one, -3 * one})},
		{op(impl.OpRelu, 1), pair([]int{2 * one}, []int{one}), grads(one/2, false, nil)}, {op(impl.OpRelu, 3), pair([]int{3 * one, -one, 0}, []int{one, one, -one}), grads(3*one, false, nil)},
		{op(impl.OpScale, 1, 2*one), pair([]int{3 * one}, []int{5 * one}), grads(one/2, false, []int{3 * one})}, {op(impl.OpScale, 2, 3*one), pair([]int{one, -2 * one}, []int{one, -one}), grads(29*one/2, false, []int{12 * one})},
		{op(impl.OpRes, 1, 2*one), pair([]int{3 * one}, []int{8 * one}), grads(one/2, false, []int{3 * one})}, {op(impl.OpRes, 2, one, 2*one, 3*one, 4*one), pair([]int{one, -one}, []int{one, one}), grads(5*one, false, []int{-one, one, -3 * one, 3 * one})},
		// Steps are rounded down: ahead, of the loss and of the gradients.
		{op(impl.OpScale, 1, one/2), pair([]int{-1}, []int{0}), grads(0, false, []int{0})}, {op(impl.OpScale, 1, one/2), pair([]int{-1}, []int{-300}), grads(0, false, []int{-1})}, {op(impl.OpScale, 1, one/2), pair([]int{2}, []int{500}), grads(1, false, []int{-1})},
	} {
		m := model(c.o)
		if got := impl.MicroGrads(m, c.p); !alike(got, c.want) {
			t.Errorf("MicroGrads(%v, %v) = %v, want %v", m, c.p, got, c.want)
		}
		if got := impl.Sequential(m, []impl.Pair{c.p}); !alike(got, c.want) {
			t.Errorf("Sequential(%v, %v) = %v, want %v", m, c.p, got, c.want)
		}
	}
}

func TestMicroGradsOfAChain(t *testing.T) {
	for _, c := range []struct {
		m    impl.Model
		p    impl.Pair
		want impl.Grads
	}{
		{model(op(impl.OpScale, 1, 2*one), dense(1, 1, 3*one)), pair([]int{5 * one}, []int{28 * one}), grads(2*one, false, []int{30 * one}, []int{20 * one})},
		{model(op(impl.OpBias, 2, one, one), op(impl.OpRelu, 2), dense(2, 1, one, 5*one)), pair([]int{one, -4 * one}, []int{0}), grads(2*one, false, []int{2 * one, 0}, nil, []int{4 * one, 0})},
		{model(op(impl.OpRes, 1, 2*one), op(impl.OpBias, 1, one)), pair([]int{3 * one}, []int{9 * one}), grads(one/2, false, []int{3 * one}, []int{one})},
		{model(op(impl.OpBias, 1, one), op(impl.OpRes, 1, 2*one)), pair([]int{3 * one}, []int{10 * one}), grads(2*one, false, []int{6 * one}, []int{8 * one})},
		{model(dense(1, 2, one, 2*one), dense(2, 1, 3*one, -one)), pair([]int{2 * one}, []int{one}), grads(one/2, false, []int{6 * one, -2 * one}, []int{2 * one, 4 * one})},
		{model(op(impl.OpRelu, 1), op(impl.OpScale, 1, -2*one), op(impl.OpRelu, 1), op(impl.OpBias, 1, one)), pair([]int{3 * one}, []int{5 * one}), grads(8*one, false, nil, []int{0}, nil, []int{-4 * one})},
	} {
		if got := impl.MicroGrads(c.m, c.p); !alike(got, c.want) {
			t.Errorf("MicroGrads(%v, %v) = %v, want %v", c.m, c.p, got, c.want)
		}
	}
	// Twice, and twice again: each P's gradient is the loss's slope by it, with all that stands ahead and behind.
	twice := impl.Model{Ops: slices.Repeat([]impl.Op{op(impl.OpScale, 1, 2*one)}, impl.MaxOps)}
	got := impl.MicroGrads(twice, pair([]int{one / 16}, []int{15 * one}))
	if want := (impl.Grads{Rows: slices.Repeat(rows([]int{8 * one}), impl.MaxOps), Loss: one / 2}); !alike(got, want) {
		t.Errorf("of %d operations: %v, want %v", impl.MaxOps, got, want)
	}
}

func TestMicroGradsAreTheSlopesOfTheLoss(t *testing.T) {
	for _, c := range []struct {
		m impl.Model
		p impl.Pair
	}{
		{model(dense(2, 3, one, 2*one, 0, -one, 3*one, one)), pair([]int{2 * one, -one}, []int{one, 0, -2 * one})}, {model(op(impl.OpBias, 2, one, -3*one)), pair([]int{one, one}, []int{0, 5 * one})},
		{model(op(impl.OpScale, 3, 2*one)), pair([]int{one, -2 * one, 3 * one}, []int{0, 0, 4 * one})}, {model(op(impl.OpRes, 2, one, -one, 2*one, 0)), pair([]int{3 * one, 2 * one}, []int{one, one})},
		{model(dense(1, 2, one, -2*one), op(impl.OpBias, 2, one, 2*one), op(impl.OpScale, 2, 2*one), op(impl.OpRes, 2, one, 2*one, -one, 0), dense(2, 1, one, -one)), pair([]int{2 * one}, []int{3 * one})},
		{model(op(impl.OpRes, 1, one), op(impl.OpScale, 1, -one), op(impl.OpRes, 1, -2*one), dense(1, 3, one, 0, 2*one), op(impl.OpBias, 3, one, one, one), dense(3, 1, one, 2*one, -one)), pair([]int{one}, []int{-2 * one})},
	} {
		g := impl.MicroGrads(c.m, c.p)
		for i, o := range c.m.Ops {
			for at, n := range o.P {
				// The loss is a square in each one, of whole numbers, so that a step of One to both sides tells the slope.
				o.P[at] = n + one
				above := impl.MicroGrads(c.m, c.p).Loss
				o.P[at] = n - one
				below := impl.MicroGrads(c.m, c.p).Loss
				o.P[at] = n
				if slope := (above - below) / 2; g.Sat || g.Rows[i].V[at] != slope {
					t.Errorf("MicroGrads(%v, %v) = %v, want %d in row %d at %d", c.m, c.p, g, slope, i, at)
				}
			}
		}
	}
}

func TestMicroGradsGoAheadAndBack(t *testing.T) {
	marked, unmarked := 0, 0
	eachBatch(func(m impl.Model, b []impl.Pair, gentle bool) {
		for _, p := range b {
			got, want := impl.MicroGrads(m, p), wantMicro(m, p)
			if !alike(got, want) {
				t.Fatalf("MicroGrads(%v, %v) = %v, want %v", m, p, got, want)
			}
			if len(got.Rows) != len(m.Ops) || got.Loss < 0 || gentle && got.Sat {
				t.Fatalf("MicroGrads(%v, %v) = %v", m, p, got)
			}
			if got.Sat {
				marked++
			} else {
				unmarked++
			}
		}
	})
	if marked == 0 || unmarked == 0 {
		t.Errorf("%d were out of the range, %d were not", marked, unmarked)
	}
	eachStep(func(o impl.Op, x, to []int) {
		if got, want := impl.MicroGrads(model(o), pair(x, to)), wantMicro(model(o), pair(x, to)); !alike(got, want) {
			t.Fatalf("MicroGrads of %v, %v and %v = %v, want %v", o, x, to, got, want)
		}
	})
}

// checkSat says where MicroGrads of a pair, or Sequential of it alone, has another mark.
func checkSat(t *testing.T, m impl.Model, p impl.Pair, want bool) {
	t.Helper()
	if wanted := wantMicro(m, p); wanted.Sat != want {
		t.Fatalf("the test wants Sat %v of %v and %v, which have %v", want, m, p, wanted)
	}
	if got := impl.MicroGrads(m, p); got.Sat != want || !alike(got, wantMicro(m, p)) {
		t.Errorf("MicroGrads(%v, %v) = %v, want Sat %v", m, p, got, want)
	}
	if got := impl.Sequential(m, []impl.Pair{p}); got.Sat != want {
		t.Errorf("Sequential(%v, %v) = %v, want Sat %v", m, p, got, want)
	}
}

func TestSatWhereJustOneStepAheadIsOutOfTheRange(t *testing.T) {
	passing := []impl.Op{op(impl.OpBias, 2, 0, 0), op(impl.OpRelu, 2), op(impl.OpScale, 2, one), op(impl.OpDense, 2, one, 0, 0, one), filled(impl.OpRes, 2, 2, 0)}
	over := []struct{ by, within impl.Op }{
		{op(impl.OpBias, 2, 1, 0), op(impl.OpBias, 2, 0, 1)}, {op(impl.OpScale, 2, one+1), op(impl.OpScale, 2, one)}, {op(impl.OpDense, 2, one+1, 0, 0, one), op(impl.OpDense, 2, one, 0, 0, one)}, {op(impl.OpDense, 2, one, 0, 2*one, 0), op(impl.OpDense, 2, one, 0, -one, 0)},
		{op(impl.OpRes, 2, 1, 0, 0, 0), op(impl.OpRes, 2, 0, 1, 0, 0)}, {op(impl.OpRes, 2, -one-1, 0, 0, 0), op(impl.OpRes, 2, -one, 0, 0, 0)},
	}
	eachPlace(func(count, at int) {
		for i, pass := range passing {
			for _, c := range over {
				m := impl.Model{Ops: slices.Repeat([]impl.Op{pass, passing[(i+at)%len(passing)]}, impl.MaxOps)[:count]}
				for _, o := range []impl.Op{c.by, c.within} {
					m.Ops[at] = o
					x := []int{most, 0}
					l, out := wantInputs(m, x)
					if out != impl.SameOp(o, c.by) {
						t.Fatalf("the test wants %v of %v ahead", !out, m)
					}
					// What comes out is T, so that the loss and all steps back come to nought.
					checkSat(t, m, pair(x, l[count].V), out)
				}
			}
		}
	})
}

func TestSatWhereTheLossOrTheFirstDifferenceIsOutOfTheRange(t *testing.T) {
	for count := 1; count <= impl.MaxOps; count++ {
		m := impl.Model{Ops: slices.Repeat([]impl.Op{op(impl.OpBias, 2, 0, 0), op(impl.OpRelu, 2)}, impl.MaxOps)[:count]}
		for _, c := range []struct {
			x, t []int
			loss int
			out  bool
		}{
			// One number alone, their sum alone, and neither.
			{[]int{300 * one, 1}, []int{0, 1}, most / 2, true}, {[]int{1, 300 * one}, []int{1, 0}, most / 2, true}, {[]int{11863283, 0}, []int{0, 0}, 1073741787, false}, {[]int{11863284, 0}, []int{0, 0}, most / 2, true},
			{[]int{11863283, 2202}, []int{0, 0}, most / 2, false}, {[]int{11863283, 2203}, []int{0, 0}, most / 2, true}, {[]int{most, 5}, []int{most, 5}, 0, false},
			// The difference is out of the range, then it just is not.
			{[]int{most, 0}, []int{-1, 0}, most / 2, true}, {[]int{0, most}, []int{0, -most}, most / 2, true}, {[]int{1, 1}, []int{most, 1}, most / 2, true}, {[]int{1, 1}, []int{1, -most}, most / 2, true},
		} {
			p := pair(c.x, c.t)
			checkSat(t, m, p, c.out)
			if got := impl.MicroGrads(m, p); got.Loss != c.loss {
				t.Errorf("MicroGrads(%v, %v) = %v, want Loss %d", m, p, got, c.loss)
			}
		}
	}
	got := impl.MicroGrads(model(op(impl.OpBias, 2, 0, 0)), pair([]int{most, 7}, []int{-1, 5}))
	if want := grads(most/2, true, []int{most, 2}); !alike(got, want) {
		t.Errorf("of a difference out of the range: %v, want %v", got, want)
	}
}

func TestSatWhereJustOneStepBackIsOutOfTheRange(t *testing.T) {
	for _, c := range []struct {
		o     impl.Op
		x, to int
		out   bool
	}{
		// What goes on ahead, by its product, and by the sum behind it.
		{op(impl.OpDense, 1, 300*one), 0, -180 * one, true}, {op(impl.OpScale, 1, 300*one), 0, -180 * one, true}, {op(impl.OpRes, 1, 300*one), 0, -180 * one, true}, {op(impl.OpRes, 1, 181*one), 0, -181 * one, true},
		{op(impl.OpDense, 1, 180*one), 0, -180 * one, false}, {op(impl.OpScale, 1, 180*one), 0, -180 * one, false}, {op(impl.OpRes, 1, 180*one), 0, -180 * one, false}, {op(impl.OpScale, 1, -180*one), 0, 180 * one, false}, {op(impl.OpDense, 1, 181*one), 0, -181 * one, false},
		// The gradient.
		{op(impl.OpDense, 1, 0), 300 * one, -180 * one, true}, {op(impl.OpScale, 1, 0), 300 * one, -180 * one, true}, {op(impl.OpRes, 1, 0), 300 * one, 120 * one, true}, {op(impl.OpScale, 1, 0), -300 * one, -180 * one, true},
		{op(impl.OpDense, 1, 0), 180 * one, -180 * one, false}, {op(impl.OpScale, 1, 0), 180 * one, -180 * one, false}, {op(impl.OpRes, 1, 0), 180 * one, 0, false},
	} {
		eachPlace(func(count, at int) {
			m := impl.Model{Ops: slices.Repeat([]impl.Op{op(impl.OpBias, 1, 0)}, count)}
			m.Ops[at] = c.o
			if _, out := wantInputs(m, []int{c.x}); out {
				t.Fatalf("the test lets a step ahead of %v be out of the range", m)
			}
			checkSat(t, m, pair([]int{c.x}, []int{c.to}), c.out)
		})
	}
	// What is masked goes on as nought: the table ahead of it does not run over.
	checkSat(t, model(op(impl.OpDense, 1, 300*one), op(impl.OpRelu, 1)), pair([]int{0}, []int{-180 * one}), false)
	checkSat(t, model(op(impl.OpDense, 1, 300*one), op(impl.OpBias, 1, 1), op(impl.OpRelu, 1)), pair([]int{0}, []int{-180 * one}), true)
}

func TestPairsThatAreNotRightHaveNoGradients(t *testing.T) {
	eachSize(func(out, in int) {
		m := model(op(impl.OpRelu, in), filled(impl.OpDense, in, out, one), op(impl.OpRelu, out))
		right := batchFor(in, out, impl.MaxMicro)
		wrong := []impl.Pair{{}}
		for i, row := range wrongRowsFor(in) {
			wrong = append(wrong, pair(row, right[i%len(right)].T))
		}
		for i, row := range wrongRowsFor(out) {
			wrong = append(wrong, pair(right[i%len(right)].X, row))
		}
		if in != out {
			wrong = append(wrong, pair(right[0].T, right[0].X))
		}
		for _, p := range right {
			if got := impl.MicroGrads(m, p); isZeroGrads(got) {
				t.Fatalf("MicroGrads(%v, %v) = %v", m, p, got)
			}
		}
		for i, p := range wrong {
			if got := impl.MicroGrads(m, p); !isZeroGrads(got) {
				t.Fatalf("MicroGrads(%v, %v) = %v, want none", m, p, got)
			}
			for count := 1; count <= impl.MaxMicro; count++ {
				b := slices.Clone(right[:count])
				b[i%count] = p
				if got := impl.Sequential(m, b); !isZeroGrads(got) {
					t.Fatalf("Sequential(%v, %v) = %v, want none", m, b, got)
				}
			}
		}
	})
}

func TestSequentialOfABatchThatIsNotRight(t *testing.T) {
	m := model(dense(2, 1, one, -one), op(impl.OpBias, 1, 5))
	p := pair([]int{3 * one, 4 * one}, []int{7})
	wrong := []impl.Pair{{}, pair([]int{1}, []int{1}), pair([]int{1, 2}, []int{1, 2}), pair([]int{1, most + 1}, []int{1}), pair([]int{1, 2}, []int{-most - 1}), pair([]int{1, 2, 3}, []int{1}), pair(nil, []int{1}), pair([]int{1, 2}, nil)}
	for count := 1; count <= impl.MaxMicro; count++ {
		for at := range count {
			for _, w := range wrong {
				b := slices.Repeat([]impl.Pair{p}, count)
				if got := impl.Sequential(m, b); isZeroGrads(got) {
					t.Errorf("Sequential(%v, %v) = %v", m, b, got)
				}
				b[at] = w
				if got := impl.Sequential(m, b); !isZeroGrads(got) {
					t.Errorf("Sequential(%v, %v) = %v, want none", m, b, got)
				}
			}
		}
	}
	for _, b := range [][]impl.Pair{nil, {}, slices.Repeat([]impl.Pair{p}, 2)[:0], slices.Repeat([]impl.Pair{p}, impl.MaxMicro+1), slices.Repeat([]impl.Pair{p}, 256+1), slices.Repeat([]impl.Pair{p}, 100000)} {
		if got := impl.Sequential(m, b); !isZeroGrads(got) {
			t.Errorf("Sequential(%v, %d pairs) = %v, want none", m, len(b), got)
		}
	}
	// What stands behind its end is no part of a batch.
	if got, want := impl.Sequential(m, []impl.Pair{p, {}}[:1]), impl.MicroGrads(m, p); !alike(got, want) || isZeroGrads(got) {
		t.Errorf("Sequential of the first of two pairs = %v, want %v", got, want)
	}
}

// checkSequential holds Sequential against the sum that a hand makes, and against AddGrads of MicroGrads, in order.
func checkSequential(t *testing.T, m impl.Model, b []impl.Pair) impl.Grads {
	t.Helper()
	want, added := noughts(m), impl.ZeroGrads(m)
	for _, p := range b {
		want = wantSum(want, wantMicro(m, p))
		added = impl.AddGrads(added, impl.MicroGrads(m, p))
	}
	got := impl.Sequential(m, b)
	if !alike(got, want) || !alike(got, added) {
		t.Fatalf("Sequential(%v, %v) = %v, want %v; AddGrads makes %v", m, b, got, want, added)
	}
	if !impl.SameGrads(got, added) {
		t.Fatalf("SameGrads(%v, %v) is false", got, added)
	}
	return got
}

func TestSequentialIsAddGradsOfMicroGrads(t *testing.T) {
	eachBatch(func(m impl.Model, b []impl.Pair, gentle bool) {
		if got := checkSequential(t, m, b); gentle && got.Sat {
			t.Fatalf("Sequential(%v, %v) = %v", m, b, got)
		}
	})
	eachOpSize(func(kind, in, out int) {
		for _, n := range []int{one, -one / 2, 0, most} {
			for count := 1; count <= impl.MaxMicro; count++ {
				m := model(filled(kind, in, out, n))
				checkSequential(t, m, batchFor(in, out, count))
				checkSequential(t, m, gentleBatch(in, out, count))
			}
		}
	})
}

func TestSequentialOfEachCountOfPairs(t *testing.T) {
	ops := []impl.Op{op(impl.OpScale, 1, 2*one), op(impl.OpBias, 1, one)}
	b := []impl.Pair{pair([]int{one}, []int{2 * one}), pair([]int{-one}, []int{0}), pair([]int{2 * one}, []int{7 * one}), pair([]int{0}, []int{0}), pair([]int{3 * one}, []int{7 * one})}
	for count, want := range []impl.Grads{
		{}, grads(one/2, false, []int{one}, []int{one}), grads(one, false, []int{2 * one}, []int{0}), grads(3*one, false, []int{-2 * one}, []int{-2 * one}), grads(7*one/2, false, []int{-2 * one}, []int{-one}), grads(7*one/2, false, []int{-2 * one}, []int{-one}),
	} {
		if got := impl.Sequential(model(ops...), b[:count]); !alike(got, want) {
			t.Errorf("Sequential of %d pairs = %v, want %v", count, got, want)
		}
	}
	if got := checkSequential(t, impl.Model{Ops: slices.Repeat(ops, impl.MaxOps/2)}, b); len(got.Rows) != impl.MaxOps {
		t.Errorf("Sequential of %d operations has %d rows", impl.MaxOps, len(got.Rows))
	}
}

func TestSequentialWhereJustASumIsOutOfTheRange(t *testing.T) {
	scale, bias := model(op(impl.OpScale, 1, 0)), model(op(impl.OpBias, 1, 0))
	up, down := pair([]int{180 * one}, []int{-180 * one}), pair([]int{180 * one}, []int{180 * one})
	far := pair([]int{181 * one}, []int{0})
	const step = 32400 * one
	for _, c := range []struct {
		m    impl.Model
		b    []impl.Pair
		want impl.Grads
	}{
		{scale, []impl.Pair{up}, grads(16200*one, false, []int{step})}, {scale, []impl.Pair{up, up}, grads(step, true, []int{most})}, {scale, []impl.Pair{down, down}, grads(step, true, []int{-most})}, {scale, []impl.Pair{up, down}, grads(step, false, []int{0})},
		// In which order it is added tells.
		{scale, []impl.Pair{up, up, down}, grads(most, true, []int{most - step})}, {scale, []impl.Pair{up, down, up}, grads(most, true, []int{step})}, {scale, []impl.Pair{down, up, up}, grads(most, true, []int{step})}, {scale, []impl.Pair{down, down, up}, grads(most, true, []int{step - most})},
		{scale, []impl.Pair{up, up, down, down}, grads(most, true, []int{most - 2*step})}, {scale, []impl.Pair{up, down, down, up}, grads(most, true, []int{0})},
		// The loss alone.
		{bias, []impl.Pair{far}, grads(16380*one+one/2, false, []int{181 * one})}, {bias, []impl.Pair{far, far}, grads(32761*one, false, []int{362 * one})}, {bias, []impl.Pair{far, far, far}, grads(most, true, []int{543 * one})},
		// One pair alone has the mark, first or last.
		{bias, []impl.Pair{pair([]int{300 * one}, []int{0}), pair([]int{0}, []int{0})}, grads(most/2, true, []int{300 * one})}, {bias, []impl.Pair{pair([]int{0}, []int{0}), pair([]int{one}, []int{0}), pair([]int{300 * one}, []int{0})}, grads(most/2+one/2, true, []int{301 * one})},
	} {
		if got := checkSequential(t, c.m, c.b); !alike(got, c.want) {
			t.Errorf("Sequential(%v, %v) = %v, want %v", c.m, c.b, got, c.want)
		}
	}
}

func TestWhereWhatComesOutIsTThereIsNothingToLearn(t *testing.T) {
	check := func(m impl.Model, b []impl.Pair) {
		t.Helper()
		outOfAny := false
		learned := make([]impl.Pair, len(b))
		for i, p := range b {
			l, out := impl.Inputs(m, p.X)
			learned[i] = pair(p.X, l[len(l)-1].V)
			want := noughts(m)
			want.Sat = out
			outOfAny = outOfAny || out
			if got := impl.MicroGrads(m, learned[i]); !alike(got, want) {
				t.Fatalf("MicroGrads(%v, %v) = %v, want %v", m, learned[i], got, want)
			}
		}
		want := noughts(m)
		want.Sat = outOfAny
		if got := impl.Sequential(m, learned); !alike(got, want) {
			t.Fatalf("Sequential(%v, %v) = %v, want %v", m, learned, got, want)
		}
	}
	eachBatch(func(m impl.Model, b []impl.Pair, _ bool) { check(m, b) })
	eachOp(func(o impl.Op) { check(model(o), batchFor(o.In, o.Out, impl.MaxMicro)) })
}

func TestSameGrads(t *testing.T) {
	for _, c := range []struct {
		a, b impl.Grads
		want bool
	}{
		{impl.Grads{}, impl.Grads{}, true}, {impl.Grads{}, impl.Grads{Rows: []impl.Row{}}, true}, {impl.Grads{}, impl.Grads{Rows: make([]impl.Row, 0, 4)}, true}, {impl.Grads{}, impl.Grads{Rows: []impl.Row{{}}}, false},
		{grads(0, false, nil), grads(0, false, []int{}), true}, {grads(0, false, nil), grads(0, false, []int{0}), false}, {grads(0, false, nil), grads(0, false, nil, nil), false},
		{impl.Grads{Loss: 1}, impl.Grads{Loss: 1}, true}, {impl.Grads{Loss: 1}, impl.Grads{}, false}, {impl.Grads{Loss: 1}, impl.Grads{Loss: -1}, false}, {impl.Grads{Sat: true}, impl.Grads{Sat: true}, true}, {impl.Grads{Sat: true}, impl.Grads{}, false},
		{grads(5, true, []int{1, 2}, nil, []int{3}), grads(5, true, []int{1, 2}, []int{}, []int{3}), true}, {grads(5, true, []int{1, 2}, nil, []int{3}), grads(5, false, []int{1, 2}, nil, []int{3}), false}, {grads(5, true, []int{1, 2}, []int{3}), grads(6, true, []int{1, 2}, []int{3}), false},
		{grads(5, true, []int{1, 2}, []int{3}), grads(5, true, []int{1, 4}, []int{3}), false}, {grads(5, true, []int{1, 2}, []int{3}), grads(5, true, []int{1, 2}, []int{4}), false}, {grads(5, true, []int{1, 2}, []int{3}), grads(5, true, []int{1, 2}), false}, {grads(5, true, []int{1, 2}, []int{3}), grads(5, true, []int{1}, []int{2, 3}), false},
		{grads(5, true, []int{1}, []int{2}), grads(5, true, []int{2}, []int{1}), false}, {grads(5, true, []int{1, 2}, []int{3}), grads(5, true, []int{1, 2}, []int{3}, nil), false},
		// What is not right is taken as it is.
		{grads(most+1, false, []int{most + 1}), grads(most+1, false, []int{most + 1}), true}, {grads(most+1, false), grads(most, false), false}, {grads(1<<32, false), grads(0, false), false}, {grads(0, false, []int{most + 1}), grads(0, false, []int{most}), false},
		{grads(math.MinInt, true, make([]int, 1000)), grads(math.MinInt, true, make([]int, 1000)), true}, {grads(math.MinInt, true), grads(math.MaxInt, true), false},
		// What stands behind an end is no part of it.
		{grads(0, false, []int{1, 2}[:1]), grads(0, false, []int{1, 3}[:1]), true}, {impl.Grads{Rows: rows([]int{1}, []int{2})[:1]}, impl.Grads{Rows: rows([]int{1}, []int{3})[:1]}, true},
	} {
		if impl.SameGrads(c.a, c.b) != c.want || impl.SameGrads(c.b, c.a) != c.want {
			t.Errorf("SameGrads(%s, %s) is not %v", brief(c.a), brief(c.b), c.want)
		}
	}
}

func TestSameGradsHoldsEachFieldAgainstTheOther(t *testing.T) {
	eachBatch(func(m impl.Model, b []impl.Pair, _ bool) {
		if len(m.Ops) > 3 {
			return
		}
		g := impl.Sequential(m, b)
		like := func() impl.Grads { return impl.Grads{Rows: cloneRows(g.Rows), Loss: g.Loss, Sat: g.Sat} }
		others := []impl.Grads{like(), like(), like(), like()}
		others[0].Loss ^= 1
		others[1].Sat = !g.Sat
		others[2].Rows = others[2].Rows[1:]
		others[3].Rows = append(others[3].Rows, impl.Row{})
		for i, r := range g.Rows {
			for at := range r.V {
				other := like()
				other.Rows[i].V[at] ^= 1
				others = append(others, other)
			}
		}
		if !impl.SameGrads(g, g) || !impl.SameGrads(g, like()) {
			t.Fatalf("SameGrads(%v) and its like is false", g)
		}
		for _, other := range others {
			if impl.SameGrads(g, other) || impl.SameGrads(other, g) {
				t.Fatalf("SameGrads(%v, %v) is true", g, other)
			}
		}
	})
}

func roomyGrads(g impl.Grads) impl.Grads {
	return impl.Grads{Rows: roomyRows(g.Rows), Loss: g.Loss, Sat: g.Sat}
}

// overwrite writes n into each number of a list of rows, to the end of the room behind each, and into the list's own room.
func overwrite(l []impl.Row, n int) {
	whole := l[:cap(l)]
	for i, r := range whole {
		room := r.V[:cap(r.V)]
		for at := range room {
			room[at] = n
		}
		whole[i] = impl.Row{V: []int{n}}
	}
}

func overwriteModel(m impl.Model, n int) {
	whole := m.Ops[:cap(m.Ops)]
	for i, o := range whole {
		overwrite([]impl.Row{{V: o.P}}, n)
		whole[i] = impl.Op{Kind: n}
	}
}

func overwriteBatch(b []impl.Pair, n int) {
	whole := b[:cap(b)]
	for i, p := range whole {
		overwrite(rows(p.X, p.T), n)
		whole[i] = pair([]int{n}, []int{n})
	}
}

// checkApart says where two rows of an answer share memory, or where a row does with what spoil writes into.
func checkApart(t *testing.T, name string, answer []impl.Row, spoil func(n int)) {
	t.Helper()
	was := cloneRows(answer)
	spoil(97)
	if !alikeRows(answer, was) {
		t.Fatalf("%s: the answer %v became %v as what was handed in was written to", name, was, answer)
	}
	for i, r := range answer {
		for at := range answer {
			if at != i {
				room := answer[at].V[:cap(answer[at].V)]
				for j := range room {
					room[j] = 98
				}
			}
		}
		if !slices.Equal(r.V, was[i].V) {
			t.Fatalf("%s: row %d of the answer %v became %v as the others were written to", name, i, was, r.V)
		}
		for at := range answer {
			copy(answer[at].V, was[at].V)
		}
	}
}

// gradientAnswers are the rows that are answered of a right model and batch.
var gradientAnswers = []struct {
	name string
	do   func(m impl.Model, b []impl.Pair) []impl.Row
}{
	{"ZeroGrads", func(m impl.Model, _ []impl.Pair) []impl.Row { return impl.ZeroGrads(m).Rows }},
	{"Inputs", func(m impl.Model, b []impl.Pair) []impl.Row { return firstOf(impl.Inputs(m, b[0].X)) }},
	{"MicroGrads", func(m impl.Model, b []impl.Pair) []impl.Row { return impl.MicroGrads(m, b[0]).Rows }},
	{"Sequential", func(m impl.Model, b []impl.Pair) []impl.Row { return impl.Sequential(m, b).Rows }},
}

func TestGradientsAreNewMemory(t *testing.T) {
	eachBatch(func(ofM impl.Model, ofB []impl.Pair, _ bool) {
		for _, c := range gradientAnswers {
			m, b := roomyModel(ofM), roomyBatch(ofB)
			wasM, wasB := wholeModel(m), wholeBatch(b)
			got, other := c.do(m, b), c.do(m, b)
			if !sameWholeModel(m, wasM) || !sameWholeBatch(b, wasB) {
				t.Fatalf("%s of %v and %v: wrote into what was handed in: %v, %v", c.name, ofM, ofB, wholeModel(m), wholeBatch(b))
			}
			if !alikeRows(got, other) || len(got) < len(ofM.Ops) {
				t.Fatalf("%s of %v and %v: %v, then %v", c.name, ofM, ofB, got, other)
			}
			checkApart(t, c.name, got, func(n int) {
				overwrite(other, n)
				overwriteBatch(b, n)
				overwriteModel(m, n)
			})
		}
	})
}

func firstOf(l []impl.Row, _ bool) []impl.Row { return l }

func sameWholeModel(m, was impl.Model) bool {
	return slices.EqualFunc(m.Ops[:cap(m.Ops)], was.Ops, func(a, b impl.Op) bool {
		return a.Kind == b.Kind && a.In == b.In && a.Out == b.Out && slices.Equal(a.P[:cap(a.P)], b.P)
	})
}

func sameWholeBatch(b, was []impl.Pair) bool {
	return slices.EqualFunc(b[:cap(b)], was, func(a, b impl.Pair) bool {
		return slices.Equal(a.X[:cap(a.X)], b.X) && slices.Equal(a.T[:cap(a.T)], b.T)
	})
}

func TestSumsOfGradientsAreNewMemory(t *testing.T) {
	shapes := [][][]int{nil, {nil}, {{1}}, {{1, 2}, nil, {3}}, {nil, {4, 5, 6}}, {{7, 8, 9}, {most}, {-most, 1}, nil}, {slices.Repeat([]int{most}, 36), slices.Repeat([]int{-1}, 7)}}
	for _, ofA := range shapes {
		for _, ofB := range shapes {
			a, b := roomyGrads(grads(5, false, ofA...)), roomyGrads(grads(6, true, ofB...))
			wasA, wasB := wholeRows(a.Rows), wholeRows(b.Rows)
			got, other := impl.AddGrads(a, b), impl.AddGrads(a, b)
			impl.SameGrads(a, b)
			if !alikeRows(wholeRows(a.Rows), wasA) || !alikeRows(wholeRows(b.Rows), wasB) {
				t.Fatalf("AddGrads(%v, %v) wrote into what was handed in: %v, %v", ofA, ofB, wholeRows(a.Rows), wholeRows(b.Rows))
			}
			checkApart(t, "AddGrads", got.Rows, func(n int) {
				overwrite(other.Rows, n)
				overwrite(a.Rows, n)
				overwrite(b.Rows, n)
			})
		}
	}
}

func TestGradientsAddedToThemselves(t *testing.T) {
	g := grads(3, false, []int{1, -2}, nil, []int{most})
	if got, want := impl.AddGrads(g, g), grads(6, true, []int{2, -4}, nil, []int{most}); !alike(got, want) {
		t.Errorf("AddGrads of %v and itself = %v, want %v", g, got, want)
	}
	if want := grads(3, false, []int{1, -2}, nil, []int{most}); !alike(g, want) {
		t.Errorf("what was handed in became %v", g)
	}
}

func TestGradientsWithTheirOwnMemoryHandedInTwice(t *testing.T) {
	for _, kind := range opKinds {
		l := []int{2 * one, -3 * one, 5 * one, 7 * one}
		o := op(kind, 2, l[:sizeOf(kind, 2, 2)]...)
		m, b := model(o, o, o), []impl.Pair{pair(l[:2], l[:2]), pair(l[1:3], l[2:]), pair(l[:2], l[2:])}
		apart := op(kind, 2, slices.Clone(o.P)...)
		far := wholeBatch([]impl.Pair{pair(l[:2:2], l[:2:2]), pair(l[1:3:3], l[2:]), pair(l[:2:2], l[2:])})
		if got, want := impl.Sequential(m, b), checkSequential(t, model(apart, apart, apart), far); !alike(got, want) {
			t.Errorf("Sequential(%v, %v) = %v, want %v", m, b, got, want)
		}
		if !slices.Equal(l, []int{2 * one, -3 * one, 5 * one, 7 * one}) {
			t.Errorf("of kind %d: what was handed in became %v", kind, l)
		}
	}
}
