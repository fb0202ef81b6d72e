package tests

import (
	"math"
	"math/bits"
	"slices"
	"testing"

	"loop.example/g01407/impl"
)

// costly is a right model whose operations have these costs, each 0, 2 or 4.
func costly(costs ...int) impl.Model {
	var m impl.Model
	for i, cost := range costs {
		kind := []int{impl.OpRelu, impl.OpBias, impl.OpScale, impl.OpScale, impl.OpDense, impl.OpRes}[cost+i%2]
		m.Ops = append(m.Ops, filled(kind, 2, 2, rowNumbers[i]))
	}
	return m
}

// eachCosts calls f with each list of so many costs that costly can have.
func eachCosts(count int, f func(costs []int)) {
	var further func(costs []int)
	further = func(costs []int) {
		if len(costs) == count {
			f(costs)
			return
		}
		for _, cost := range []int{0, 2, 4} {
			further(append(costs, cost))
		}
	}
	further(nil)
}

// wantAllCuts takes each set of places that has as many as there are cuts, and sorts these.
func wantAllCuts(ops, stages int) [][]int {
	var all [][]int
	if ops < 1 || ops > impl.MaxOps || stages < 1 || stages > ops {
		return nil
	}
	for set := uint(0); set < 1<<(ops-1); set++ {
		if bits.OnesCount(set) != stages-1 {
			continue
		}
		cuts := []int{}
		for place := 1; place < ops; place++ {
			if set>>(place-1)&1 == 1 {
				cuts = append(cuts, place)
			}
		}
		all = append(all, cuts)
	}
	slices.SortFunc(all, slices.Compare[[]int])
	return all
}

func opCosts(m impl.Model) []int {
	var costs []int
	for _, o := range m.Ops {
		costs = append(costs, costOf(o.Kind, o.In, o.Out))
	}
	return costs
}

// wantCosts is what each stage costs, operation by operation.
func wantCosts(ops, cuts []int) []int {
	costs := make([]int, len(cuts)+1)
	for i, cost := range ops {
		s := 0
		for _, cut := range cuts {
			if cut <= i {
				s++
			}
		}
		costs[s] += cost
	}
	return costs
}

// wantBest is the first of the ways with the least of the greatest costs.
func wantBest(ops []int, ways [][]int) []int {
	return slices.MinFunc(ways, func(a, b []int) int {
		return slices.Max(wantCosts(ops, a)) - slices.Max(wantCosts(ops, b))
	})
}

func counting(first, behind int) []int {
	var l []int
	for n := first; n < behind; n++ {
		l = append(l, n)
	}
	return l
}

// numbersAbout are numbers of stages and operations in the range and out of it.
func numbersAbout() []int {
	return append(counting(-3, 2*impl.MaxOps+3), -impl.MaxOps, 255, 256, 257, 1<<32, 1<<32+1, 1<<32+2, -1<<32+1, math.MaxInt, math.MaxInt-1, math.MinInt, math.MinInt+1, math.MinInt+2)
}

// eachRightCuts calls f with many right models, each with all cuts of it.
func eachRightCuts(f func(m impl.Model, cuts []int)) {
	eachModel(func(m impl.Model) {
		for stages := 1; stages <= len(m.Ops); stages++ {
			for _, cuts := range wantAllCuts(len(m.Ops), stages) {
				f(m, cuts)
			}
		}
	})
}

// checkNoStage says where a stage is answered as if it were there.
func checkNoStage(t *testing.T, m impl.Model, cuts []int, s int) {
	t.Helper()
	if begin, end := impl.StageRange(m, cuts, s); begin != 0 || end != 0 {
		t.Fatalf("StageRange(%s, %s, %d) = %d, %d, want none", brief(m), brief(cuts), s, begin, end)
	}
	if got := impl.StageCost(m, cuts, s); got != 0 {
		t.Fatalf("StageCost(%s, %s, %d) = %d, want 0", brief(m), brief(cuts), s, got)
	}
}

// checkWrongCuts says where cuts that are not right are answered as if they were.
func checkWrongCuts(t *testing.T, m impl.Model, cuts []int) {
	t.Helper()
	if impl.CutsOk(m, cuts) {
		t.Fatalf("CutsOk(%s, %s) is true", brief(m), brief(cuts))
	}
	if got := impl.MaxCost(m, cuts); got != 0 {
		t.Fatalf("MaxCost(%s, %s) = %d, want 0", brief(m), brief(cuts), got)
	}
	for _, s := range []int{-1, 0, 1, 2, len(cuts) - 1, len(cuts), len(cuts) + 1, impl.MaxOps, math.MaxInt, math.MinInt} {
		checkNoStage(t, m, cuts, s)
	}
}

func TestCutsOk(t *testing.T) {
	m := costly(4, 2, 0, 4, 2)
	for _, cuts := range [][]int{
		nil, {}, make([]int, 0, 3), {1}, {2}, {3}, {4}, {1, 2}, {1, 4}, {2, 3}, {3, 4}, {1, 2, 3}, {1, 3, 4}, {2, 3, 4}, {1, 2, 3, 4},
		// What stands behind their end is no part of them.
		[]int{1, 2}[:0], []int{1, 3, 2}[:2], []int{4, 4}[:1], []int{1, 2, 3, 4, 5}[:4], []int{2, 0}[:1],
	} {
		if !impl.CutsOk(m, cuts) {
			t.Errorf("CutsOk(%v, %v) is false", m, cuts)
		}
	}
	for _, cuts := range [][]int{
		// 0, below 0, as many as there are operations, beyond.
		{0}, {-1}, {5}, {6}, {8}, {math.MaxInt}, {math.MinInt}, {1<<32 + 1}, {-1<<32 + 1}, {257}, {0, 1}, {0, 2, 4}, {-1, 1}, {-1, 0}, {math.MinInt, 1}, {4, 5}, {1, 5}, {2, 4, 5}, {1, 2, 3, 4, 5}, {0, 1, 2, 3, 4}, {0, 1, 2, 3, 4, 5}, {3, math.MaxInt}, {1, 2, 1 << 32},
		// They do not rise: alike, or one below the one ahead of it.
		{1, 1}, {2, 2}, {4, 4}, {1, 1, 2}, {1, 2, 2}, {1, 3, 3}, {1, 2, 3, 3}, {2, 1}, {4, 1}, {4, 3, 2, 1}, {1, 3, 2}, {3, 4, 1}, {2, 1, 3}, {1, 4, 2, 3}, {2, 0}, {2, -1}, {1, 2, 0}, {4, 0}, {1, 0, 2}, {0, 0}, {5, 1}, {2, 5, 3}, {1, math.MinInt, 3}, {math.MaxInt, 1},
		slices.Repeat([]int{1}, 1000), make([]int, 1000), counting(1, 100000),
	} {
		checkWrongCuts(t, m, cuts)
	}
}

func TestCutsOfFewNumbersInEachOrder(t *testing.T) {
	for count := 1; count <= impl.MaxOps; count++ {
		m := costly(slices.Repeat([]int{4}, count)...)
		numbers := counting(-1, count+2)
		var each func(cuts []int)
		each = func(cuts []int) {
			right := slices.ContainsFunc(wantAllCuts(count, len(cuts)+1), func(way []int) bool { return slices.Equal(way, cuts) })
			if !right {
				checkWrongCuts(t, m, cuts)
			} else if !impl.CutsOk(m, cuts) {
				t.Fatalf("CutsOk(%d operations, %v) is false", count, cuts)
			}
			for _, n := range numbers {
				if len(cuts) < 3 {
					each(append(slices.Clip(cuts), n))
				}
			}
		}
		each(nil)
	}
}

func TestCutsWithOneThatIsNotRight(t *testing.T) {
	for count := 2; count <= impl.MaxOps; count++ {
		m := costly(slices.Repeat([]int{2}, count)...)
		for stages := 2; stages <= count; stages++ {
			for _, cuts := range wantAllCuts(count, stages) {
				for at := range cuts {
					for _, n := range []int{0, -1, count, count + 1, -cuts[at], cuts[at] + 1<<32, math.MaxInt, math.MinInt} {
						wrong := slices.Clone(cuts)
						wrong[at] = n
						checkWrongCuts(t, m, wrong)
					}
					checkWrongCuts(t, m, slices.Insert(slices.Clone(cuts), at, cuts[at]))
					if at > 0 {
						turned := slices.Clone(cuts)
						turned[at], turned[at-1] = turned[at-1], turned[at]
						checkWrongCuts(t, m, turned)
					}
				}
			}
		}
	}
}

func TestModelsThatAreNotRightHaveNoCuts(t *testing.T) {
	eachWrongModel(func(m impl.Model, _ impl.Pair) {
		for _, cuts := range [][]int{nil, {}, {1}, {2}, {1, 2}, {0}, {-1}, {2, 1}, counting(1, len(m.Ops)), counting(1, min(len(m.Ops), impl.MaxOps))} {
			checkWrongCuts(t, m, cuts)
		}
		for _, stages := range []int{-1, 0, 1, 2, 3, len(m.Ops) - 1, len(m.Ops), len(m.Ops) + 1, impl.MaxOps, math.MaxInt, math.MinInt} {
			if got, ok := impl.BestCuts(m, stages); len(got) != 0 || ok {
				t.Fatalf("BestCuts(%s, %d) = %v, %v, want none", brief(m), stages, got, ok)
			}
		}
	})
	// One operation that is not right, at each place of a model that is right without it, in its stage and in others.
	eachPlace(func(count, at int) {
		m := costly(slices.Repeat([]int{4}, count)...)
		for _, wrong := range []impl.Op{{}, op(impl.OpScale, 2), op(impl.OpBias, 2, one, most+1), op(impl.OpRelu, 3), op(6, 2, one)} {
			if count == 1 && impl.OpOk(wrong) {
				continue // it has no other to which it would not fit
			}
			m.Ops[at] = wrong
			for stages := 1; stages <= count; stages++ {
				for _, cuts := range wantAllCuts(count, stages) {
					checkWrongCuts(t, m, cuts)
				}
				if got, ok := impl.BestCuts(m, stages); len(got) != 0 || ok {
					t.Fatalf("BestCuts(%v, %d) = %v, %v, want none", m, stages, got, ok)
				}
			}
		}
	})
}

func TestStageRange(t *testing.T) {
	m := costly(4, 2, 0, 4, 2)
	for _, c := range []struct {
		cuts          []int
		s, begin, end int
	}{
		// One stage has all.
		{nil, 0, 0, 5}, {[]int{}, 0, 0, 5}, {nil, 1, 0, 0}, {nil, -1, 0, 0},
		// The first, a middle and the last one.
		{[]int{1, 3}, 0, 0, 1}, {[]int{1, 3}, 1, 1, 3}, {[]int{1, 3}, 2, 3, 5}, {[]int{4}, 0, 0, 4}, {[]int{4}, 1, 4, 5}, {[]int{1}, 0, 0, 1}, {[]int{1}, 1, 1, 5}, {[]int{2, 3, 4}, 1, 2, 3}, {[]int{2, 3, 4}, 2, 3, 4},
		// As many stages as operations.
		{[]int{1, 2, 3, 4}, 0, 0, 1}, {[]int{1, 2, 3, 4}, 1, 1, 2}, {[]int{1, 2, 3, 4}, 2, 2, 3}, {[]int{1, 2, 3, 4}, 3, 3, 4}, {[]int{1, 2, 3, 4}, 4, 4, 5}, {[]int{1, 2, 3, 4}, 5, 0, 0},
		// There is no such stage.
		{[]int{1, 3}, 3, 0, 0}, {[]int{1, 3}, 4, 0, 0}, {[]int{1, 3}, -1, 0, 0}, {[]int{1, 3}, -2, 0, 0}, {[]int{1, 3}, math.MaxInt, 0, 0}, {[]int{1, 3}, math.MinInt, 0, 0}, {[]int{1, 3}, 1<<32 + 1, 0, 0}, {[]int{1, 3}, 257, 0, 0},
		// What stands behind the end of cuts is no part of them.
		{[]int{1, 3, 4}[:2], 2, 3, 5}, {[]int{1, 3, 4}[:2], 3, 0, 0}, {[]int{2, 4}[:0], 0, 0, 5}, {[]int{2, 4}[:0], 1, 0, 0},
		// Cuts that are not right.
		{[]int{3, 1}, 0, 0, 0}, {[]int{3, 1}, 1, 0, 0}, {[]int{3, 1}, 2, 0, 0}, {[]int{1, 1}, 0, 0, 0}, {[]int{1, 1}, 1, 0, 0}, {[]int{0}, 0, 0, 0}, {[]int{0}, 1, 0, 0}, {[]int{5}, 0, 0, 0}, {[]int{5}, 1, 0, 0}, {[]int{1, 5}, 1, 0, 0}, {[]int{-1, 2}, 1, 0, 0},
	} {
		if begin, end := impl.StageRange(m, c.cuts, c.s); begin != c.begin || end != c.end {
			t.Errorf("StageRange(5 operations, %v, %d) = %d, %d, want %d, %d", c.cuts, c.s, begin, end, c.begin, c.end)
		}
	}
}

func TestStageCostAndMaxCost(t *testing.T) {
	mixed := model(dense(3, 2, make([]int, 6)...), op(impl.OpBias, 2, 1, 2), op(impl.OpScale, 2, one), dense(2, 6, make([]int, 12)...), op(impl.OpRelu, 6), filled(impl.OpRes, 6, 6, -one), op(impl.OpScale, 6, 0))
	for _, c := range []struct {
		m     impl.Model
		cuts  []int
		costs []int
		most  int
	}{
		{mixed, nil, []int{62}, 62}, {mixed, []int{1}, []int{6, 56}, 56}, {mixed, []int{5}, []int{20, 42}, 42}, {mixed, []int{6}, []int{56, 6}, 56}, {mixed, []int{1, 3, 5}, []int{6, 2, 12, 42}, 42}, {mixed, []int{4, 5, 6}, []int{20, 0, 36, 6}, 36},
		{mixed, []int{1, 2, 3, 4, 5, 6}, []int{6, 0, 2, 12, 0, 36, 6}, 36},
		// The greatest at the first, a middle and the last stage.
		{costly(4, 2, 0), []int{1, 2}, []int{4, 2, 0}, 4}, {costly(2, 4, 0), []int{1, 2}, []int{2, 4, 0}, 4}, {costly(0, 2, 4), []int{1, 2}, []int{0, 2, 4}, 4}, {costly(4, 0, 4), []int{1, 2}, []int{4, 0, 4}, 4}, {costly(2, 2, 2, 4), []int{3}, []int{6, 4}, 6},
		// Nothing but noughts.
		{costly(0), nil, []int{0}, 0}, {costly(0, 0, 0), []int{1}, []int{0, 0}, 0}, {costly(0, 0, 0), []int{1, 2}, []int{0, 0, 0}, 0},
		{impl.Model{Ops: slices.Repeat([]impl.Op{filled(impl.OpRes, 6, 6, one)}, impl.MaxOps)}, nil, []int{288}, 288}, {impl.Model{Ops: slices.Repeat([]impl.Op{filled(impl.OpRes, 6, 6, one)}, impl.MaxOps)}, []int{3}, []int{108, 180}, 180},
	} {
		for s, want := range c.costs {
			if got := impl.StageCost(c.m, c.cuts, s); got != want {
				t.Errorf("StageCost(%v, %v, %d) = %d, want %d", c.m, c.cuts, s, got, want)
			}
		}
		if got := impl.MaxCost(c.m, c.cuts); got != c.most {
			t.Errorf("MaxCost(%v, %v) = %d, want %d", c.m, c.cuts, got, c.most)
		}
		for _, s := range []int{-1, len(c.costs), math.MaxInt, math.MinInt} {
			checkNoStage(t, c.m, c.cuts, s)
		}
	}
}

func TestStagesHaveEachOperationOnceInOrder(t *testing.T) {
	eachRightCuts(func(m impl.Model, cuts []int) {
		if !impl.CutsOk(m, cuts) {
			t.Fatalf("CutsOk(%v, %v) is false", m, cuts)
		}
		costs := wantCosts(opCosts(m), cuts)
		var l []int
		sum := 0
		for s := range len(cuts) + 1 {
			begin, end := impl.StageRange(m, cuts, s)
			if begin >= end {
				t.Fatalf("StageRange(%v, %v, %d) = %d, %d: there is nothing in it", m, cuts, s, begin, end)
			}
			l = append(l, counting(begin, end)...)
			cost := impl.StageCost(m, cuts, s)
			if cost != costs[s] {
				t.Fatalf("StageCost(%v, %v, %d) = %d, want %d", m, cuts, s, cost, costs[s])
			}
			sum += cost
		}
		if !slices.Equal(l, counting(0, len(m.Ops))) {
			t.Fatalf("the stages of %d operations and cuts %v have %v", len(m.Ops), cuts, l)
		}
		if whole := impl.StageCost(m, nil, 0); sum != whole {
			t.Fatalf("the stages of %v and cuts %v cost %d, but uncut %d", m, cuts, sum, whole)
		}
		if got, want := impl.MaxCost(m, cuts), slices.Max(costs); got != want {
			t.Fatalf("MaxCost(%v, %v) = %d, want %d", m, cuts, got, want)
		}
		checkNoStage(t, m, cuts, -1)
		checkNoStage(t, m, cuts, len(cuts)+1)
	})
}

func TestAllCuts(t *testing.T) {
	for _, c := range []struct {
		ops, stages int
		want        []impl.Row
	}{
		{1, 1, rows(nil)}, {2, 1, rows(nil)}, {2, 2, rows([]int{1})}, {3, 1, rows(nil)}, {3, 2, rows([]int{1}, []int{2})}, {3, 3, rows([]int{1, 2})},
		{4, 2, rows([]int{1}, []int{2}, []int{3})}, {4, 3, rows([]int{1, 2}, []int{1, 3}, []int{2, 3})}, {4, 4, rows([]int{1, 2, 3})},
		{5, 3, rows([]int{1, 2}, []int{1, 3}, []int{1, 4}, []int{2, 3}, []int{2, 4}, []int{3, 4})}, {5, 4, rows([]int{1, 2, 3}, []int{1, 2, 4}, []int{1, 3, 4}, []int{2, 3, 4})},
		{8, 1, rows(nil)}, {8, 2, rows([]int{1}, []int{2}, []int{3}, []int{4}, []int{5}, []int{6}, []int{7})}, {8, 8, rows([]int{1, 2, 3, 4, 5, 6, 7})},
		{8, 7, rows([]int{1, 2, 3, 4, 5, 6}, []int{1, 2, 3, 4, 5, 7}, []int{1, 2, 3, 4, 6, 7}, []int{1, 2, 3, 5, 6, 7}, []int{1, 2, 4, 5, 6, 7}, []int{1, 3, 4, 5, 6, 7}, []int{2, 3, 4, 5, 6, 7})},
		{0, 0, nil}, {0, 1, nil}, {-1, 1, nil}, {-1, -1, nil}, {9, 1, nil}, {9, 9, nil}, {9, 3, nil}, {1, 0, nil}, {3, 0, nil}, {3, -1, nil}, {3, 4, nil}, {1, 2, nil}, {8, 9, nil}, {8, 0, nil},
	} {
		if got := impl.AllCuts(c.ops, c.stages); !alikeRows(got, c.want) {
			t.Errorf("AllCuts(%d, %d) = %v, want %v", c.ops, c.stages, got, c.want)
		}
	}
}

func TestAllCutsHasEachWayJustOnceInOrder(t *testing.T) {
	ways := 0
	for _, ops := range numbersAbout() {
		for _, stages := range numbersAbout() {
			got, want := impl.AllCuts(ops, stages), wantAllCuts(ops, stages)
			if !alikeRows(got, rows(want...)) {
				t.Fatalf("AllCuts(%d, %d) = %v, want %v", ops, stages, got, want)
			}
			for i, r := range got {
				if i > 0 && slices.Compare(got[i-1].V, r.V) >= 0 {
					t.Fatalf("AllCuts(%d, %d) has %v ahead of %v", ops, stages, got[i-1].V, r.V)
				}
			}
			if right := 1 <= ops && ops <= impl.MaxOps && 1 <= stages && stages <= ops; right != (len(got) > 0) {
				t.Fatalf("AllCuts(%d, %d) has %d ways", ops, stages, len(got))
			} else if right && (stages == 1 || stages == ops) && len(got) != 1 {
				t.Fatalf("AllCuts(%d, %d) has %d ways", ops, stages, len(got))
			}
			ways += len(got)
		}
	}
	// 1, 2, 4 and so on to 128.
	if ways != 255 {
		t.Errorf("there are %d ways in all", ways)
	}
}

func TestBestCuts(t *testing.T) {
	for _, c := range []struct {
		m      impl.Model
		stages int
		want   []int
	}{
		// The greatest cost at the first, a middle and the last stage.
		{costly(4, 2, 2), 2, []int{1}}, {costly(2, 2, 4), 2, []int{2}}, {costly(2, 4, 2), 3, []int{1, 2}}, {costly(4, 4, 2, 2, 2), 2, []int{2}}, {costly(2, 2, 2, 4, 4), 2, []int{3}}, {costly(2, 0, 4, 4, 4, 0, 2), 3, []int{3, 4}}, {costly(4, 4, 4, 0, 0, 2, 2), 3, []int{1, 2}},
		// Costs that tie: the first of AllCuts.
		{costly(2, 2, 2), 2, []int{1}}, {costly(4, 4, 4, 4, 4), 3, []int{1, 3}}, {costly(2, 2, 2, 2, 2, 2, 2, 2), 3, []int{2, 5}}, {costly(2, 4, 2), 2, []int{1}}, {costly(2, 2, 2, 2), 3, []int{1, 2}}, {costly(0, 0, 4, 0, 0), 2, []int{1}}, {costly(0, 0, 4, 0, 0), 4, []int{1, 2, 3}}, {costly(4, 0, 0, 4), 2, []int{1}}, {costly(4, 0, 0, 4), 3, []int{1, 2}}, {costly(0, 0, 4, 4), 2, []int{3}}, {costly(0, 0, 4, 4), 3, []int{1, 3}},
		// Nothing but noughts.
		{costly(0), 1, nil}, {costly(0, 0), 2, []int{1}}, {costly(0, 0, 0, 0), 2, []int{1}}, {costly(0, 0, 0, 0), 3, []int{1, 2}}, {costly(0, 0, 0, 0, 0, 0, 0, 0), 5, []int{1, 2, 3, 4}},
		// One stage, and as many stages as operations.
		{costly(4), 1, nil}, {costly(4, 2), 1, nil}, {costly(4, 2), 2, []int{1}}, {costly(4, 2, 0, 4, 2), 1, nil}, {costly(4, 2, 0, 4, 2), 5, []int{1, 2, 3, 4}}, {costly(0, 2, 4, 0, 2, 4, 0, 2), 8, []int{1, 2, 3, 4, 5, 6, 7}}, {costly(0, 2, 4, 0, 2, 4, 0, 2), 1, nil},
		{model(dense(3, 2, make([]int, 6)...), op(impl.OpBias, 2, 1, 2), op(impl.OpScale, 2, one), dense(2, 6, make([]int, 12)...), op(impl.OpRelu, 6), filled(impl.OpRes, 6, 6, -one), op(impl.OpScale, 6, 0)), 3, []int{4, 6}},
	} {
		if got, ok := impl.BestCuts(c.m, c.stages); !slices.Equal(got, c.want) || !ok {
			t.Errorf("BestCuts(%v, %d) = %v, %v, want %v", c.m, c.stages, got, ok, c.want)
		}
	}
}

// checkBest holds BestCuts against the costs that the test adds up.
func checkBest(t *testing.T, m impl.Model, ways [][]int) {
	t.Helper()
	stages := len(ways[0]) + 1
	if got, ok := impl.BestCuts(m, stages); !slices.Equal(got, wantBest(opCosts(m), ways)) || !ok {
		t.Fatalf("BestCuts(%v, %d) = %v, %v, want %v", m, stages, got, ok, wantBest(opCosts(m), ways))
	}
}

func TestBestCutsAreTheFirstOfTheLeast(t *testing.T) {
	for count := 1; count <= impl.MaxOps; count++ {
		for stages := 1; stages <= count; stages++ {
			ways := wantAllCuts(count, stages)
			eachCosts(count, func(costs []int) { checkBest(t, costly(costs...), ways) })
		}
	}
	eachModel(func(m impl.Model) {
		for stages := 1; stages <= len(m.Ops); stages++ {
			checkBest(t, m, wantAllCuts(len(m.Ops), stages))
		}
	})
}

func TestNoCutsHaveALesserMaxCostThanBestCuts(t *testing.T) {
	eachModel(func(m impl.Model) {
		for stages := 1; stages <= len(m.Ops); stages++ {
			best, ok := impl.BestCuts(m, stages)
			if !ok || len(best) != stages-1 || !impl.CutsOk(m, best) {
				t.Fatalf("BestCuts(%v, %d) = %v, %v", m, stages, best, ok)
			}
			least := impl.MaxCost(m, best)
			for _, r := range impl.AllCuts(len(m.Ops), stages) {
				if cost := impl.MaxCost(m, r.V); cost < least || cost == least && slices.Compare(r.V, best) < 0 {
					t.Fatalf("BestCuts(%v, %d) = %v with %d, but %v has %d", m, stages, best, least, r.V, cost)
				}
			}
		}
	})
}

func TestBestCutsOfAsManyStagesAsOperations(t *testing.T) {
	eachModel(func(m impl.Model) {
		count := len(m.Ops)
		if got, ok := impl.BestCuts(m, count); !slices.Equal(got, counting(1, count)) || !ok {
			t.Fatalf("BestCuts(%v, %d) = %v, %v", m, count, got, ok)
		}
		if got, ok := impl.BestCuts(m, 1); len(got) != 0 || !ok {
			t.Fatalf("BestCuts(%v, 1) = %v, %v", m, got, ok)
		}
		for s, o := range m.Ops {
			if begin, end := impl.StageRange(m, counting(1, count), s); begin != s || end != s+1 {
				t.Fatalf("StageRange(%d operations, %v, %d) = %d, %d", count, counting(1, count), s, begin, end)
			}
			if got, want := impl.StageCost(m, counting(1, count), s), impl.OpCost(o); got != want {
				t.Fatalf("StageCost(%v, %v, %d) = %d, want %d", m, counting(1, count), s, got, want)
			}
		}
		// One more cut has no place.
		checkWrongCuts(t, m, counting(1, count+1))
		checkWrongCuts(t, m, counting(0, count))
	})
}

func TestBestCutsOfStagesOutOfTheRange(t *testing.T) {
	for count := 1; count <= impl.MaxOps; count++ {
		m := costly(slices.Repeat([]int{4}, count)...)
		for _, stages := range numbersAbout() {
			got, ok := impl.BestCuts(m, stages)
			if right := 1 <= stages && stages <= count; ok != right || !right && len(got) != 0 {
				t.Errorf("BestCuts(%d operations, %d) = %v, %v", count, stages, got, ok)
			}
		}
	}
}

func TestWhatIsAskedOfCutsWritesIntoNone(t *testing.T) {
	check := func(ofM impl.Model, ofCuts []int) {
		t.Helper()
		m, cuts := roomyModel(ofM), roomyRow(ofCuts)
		wasM, wasCuts := wholeModel(m), wholeRow(cuts)
		impl.CutsOk(m, cuts)
		impl.MaxCost(m, cuts)
		for s := -1; s <= len(cuts)+1; s++ {
			impl.StageRange(m, cuts, s)
			impl.StageCost(m, cuts, s)
			impl.BestCuts(m, s)
		}
		if !sameWholeModel(m, wasM) || !slices.Equal(cuts[:cap(cuts)], wasCuts) {
			t.Fatalf("of %v and %v: wrote into what was handed in: %v, %v", ofM, ofCuts, wholeModel(m), cuts[:cap(cuts)])
		}
	}
	eachModel(func(m impl.Model) {
		for stages := 1; stages <= len(m.Ops); stages++ {
			all := wantAllCuts(len(m.Ops), stages)
			check(m, all[0])
			check(m, all[len(all)-1])
		}
		for _, cuts := range [][]int{nil, {0}, {3, 1}, {1, 1}, counting(1, len(m.Ops)+1), {math.MinInt, math.MaxInt}} {
			check(m, cuts)
		}
	})
	check(impl.Model{}, []int{1, 2})
	check(model(op(impl.OpRelu, 2, one), op(impl.OpScale, 2, one)), []int{1})
}

func TestCutsAreNewMemory(t *testing.T) {
	for ops := 1; ops <= impl.MaxOps; ops++ {
		for stages := 1; stages <= ops; stages++ {
			want := rows(wantAllCuts(ops, stages)...)
			got, other := impl.AllCuts(ops, stages), impl.AllCuts(ops, stages)
			checkApart(t, "AllCuts", got, func(n int) { overwrite(other, n) })
			overwrite(got, 96)
			if again := impl.AllCuts(ops, stages); !alikeRows(again, want) {
				t.Fatalf("AllCuts(%d, %d) = %v once an answer was written to, want %v", ops, stages, again, want)
			}
		}
	}
	eachModel(func(ofM impl.Model) {
		for stages := 1; stages <= len(ofM.Ops); stages++ {
			m := roomyModel(ofM)
			best, ok := impl.BestCuts(m, stages)
			other, _ := impl.BestCuts(m, stages)
			want := wantBest(opCosts(ofM), wantAllCuts(len(ofM.Ops), stages))
			checkApart(t, "BestCuts", rows(best, other), func(n int) {
				overwrite(impl.AllCuts(len(ofM.Ops), stages), n)
				overwriteModel(m, n)
			})
			overwrite(rows(other), 96)
			if again, _ := impl.BestCuts(ofM, stages); !slices.Equal(best, want) || !slices.Equal(again, want) || !ok {
				t.Fatalf("BestCuts(%v, %d) = %v, then %v, want %v", ofM, stages, best, again, want)
			}
		}
	})
}
