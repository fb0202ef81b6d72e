package tests

import (
	"fmt"
	"math"
	"math/rand/v2"
	"reflect"
	"slices"
	"testing"

	"loop.example/g01407/impl"
)

// wantRun gives the first 2000 turns.
func wantRun(p impl.Pipe, picks []int) impl.Pipe {
	made := plainOf(p)
	for turn, s := range picks {
		if turn < 2000 {
			made = wantPick(made, s)
		}
	}
	return made
}

// wantRounds are the stages of the first n turns, gone through one behind the other.
func wantRounds(stages, n int) []int {
	var l []int
	for s := 0; stages > 0 && len(l) < n && len(l) < 2000; s++ {
		if s == stages {
			s = 0
		}
		l = append(l, s)
	}
	return l
}

func wantTotal(c impl.Config, micro int) int {
	sum := 0
	for s, redo := range c.Redo {
		task := post{ds: c.Ds, stages: wantStages(c), s: s, micro: micro, redo: redo}
		if task.right() && (c.Ds == impl.DsAll || c.Ds == impl.DsOne) {
			sum += len(wantPlan(task))
		}
	}
	return sum
}

func wantEnabledAll(p impl.Pipe) []int {
	var l []int
	for s := range p.Stages {
		if wantEnabled(p, s) {
			l = append(l, s)
		}
	}
	return l
}

// places are where the stages of a pipe are.
func places(p impl.Pipe) []int {
	var l []int
	for _, s := range p.Stages {
		l = append(l, s.Pc)
	}
	return l
}

func checkTurns(t *testing.T, name string, p impl.Pipe, picks []int) impl.Pipe {
	t.Helper()
	got, want := impl.Run(p, picks), wantRun(p, picks)
	if !like(got, want) {
		t.Fatalf("%s: Run(%s, %s) = %+v, want %+v", name, brief(p), brief(picks), got, want)
	}
	return got
}

func checkRounds(t *testing.T, name string, p impl.Pipe, n int) impl.Pipe {
	t.Helper()
	got, want := impl.Rounds(p, n), wantRun(p, wantRounds(len(p.Stages), n))
	if !like(got, want) {
		t.Fatalf("%s: Rounds(%s, %d) = %+v, want %+v", name, brief(p), n, got, want)
	}
	return got
}

func checkEnabledAll(t *testing.T, name string, p impl.Pipe, want ...int) {
	t.Helper()
	if by := wantEnabledAll(p); !slices.Equal(by, want) {
		t.Fatalf("%s: the test wants %v of %s, by the chapters it is %v", name, want, brief(p), by)
	}
	if got := impl.EnabledAll(p); !slices.Equal(got, want) {
		t.Fatalf("%s: EnabledAll(%s) = %v, want %v", name, brief(p), got, want)
	}
}

// checkNoTurns wants that no turn changes anything in this pipe.
func checkNoTurns(t *testing.T, name string, p impl.Pipe) {
	t.Helper()
	turns := append(append([]int{-1}, counting(0, min(len(p.Stages), 9)+1)...), math.MinInt, math.MaxInt)
	for _, picks := range [][]int{nil, turns[:2], turns, slices.Repeat(turns, 3)} {
		if got := impl.Run(p, picks); !like(got, p) {
			t.Fatalf("%s: Run(%s, %v) = %s", name, brief(p), picks, brief(got))
		}
	}
	for _, n := range []int{-1, 0, 1, 9} {
		if got := impl.Rounds(p, n); !like(got, p) {
			t.Fatalf("%s: Rounds(%s, %d) = %s", name, brief(p), n, brief(got))
		}
	}
	checkEnabledAll(t, name, p)
}

// twoStages is a new pipe of two pairs, in which each queue has room for one:
// fwd0 send0 fwd1 send1 recvg0 bwd0 recvg1 bwd1 flush0, and recv0 fwd0 bwd0 sendg0 recv1 fwd1 bwd1 sendg1 flush0.
func twoStages(t *testing.T) impl.Pipe {
	t.Helper()
	m := model(op(impl.OpScale, 1, 2*one), op(impl.OpBias, 1, one))
	p := laidOut(t, withCaps(tightAsked(m, []int{1}, impl.DsOne, make([]bool, 2), 2), 1))
	first, last := planOf("fwd0 send0 fwd1 send1 recvg0 bwd0 recvg1 bwd1 flush0"), planOf("recv0 fwd0 bwd0 sendg0 recv1 fwd1 bwd1 sendg1 flush0")
	if !slices.Equal(p.Stages[0].Plan, first) || !slices.Equal(p.Stages[1].Plan, last) {
		t.Fatalf("other plans: %s", brief(p))
	}
	return p
}

// longPipe is right, and each stage may go on as often as many says.
func longPipe(stages, many int) impl.Pipe {
	p := plainPipe(stages)
	for s := range p.Stages {
		p.Stages[s].Plan = append(slices.Repeat(planOf("redo1"), many), p.Stages[s].Plan...)
	}
	return p
}

func TestMaxPicks(t *testing.T) {
	if impl.MaxPicks != 2000 {
		t.Errorf("MaxPicks = %d", impl.MaxPicks)
	}
}

func TestRun(t *testing.T) {
	p := twoStages(t)
	for _, c := range []struct {
		name  string
		picks []int
		want  []int // where the stages are then
	}{
		{"no picks", nil, []int{0, 0}}, {"an empty list", []int{}, []int{0, 0}},
		{"one", []int{0}, []int{1, 0}}, {"two", []int{0, 0}, []int{2, 0}}, {"in order", []int{0, 0, 1, 0, 1}, []int{3, 2}},
		{"one that must wait", []int{1}, []int{0, 0}}, {"it waits on", []int{1, 1, 1}, []int{0, 0}}, {"one behind it", []int{1, 0}, []int{1, 0}}, {"some about it", []int{0, 1, 0, 1, 1}, []int{2, 2}},
		{"no room", []int{0, 0, 0, 0, 0}, []int{3, 0}}, {"room again", []int{0, 0, 0, 0, 1, 0}, []int{4, 1}}, {"nothing came back", []int{0, 0, 1, 0, 0, 0, 0}, []int{4, 1}},
		{"it came back", []int{0, 0, 1, 1, 1, 1, 0, 0, 0, 0}, []int{6, 4}},
		{"no such stages", []int{-1, 2, 3, -2, math.MinInt, math.MaxInt, 256, 1 << 32, -1 << 32}, []int{0, 0}}, {"some among them", []int{-1, 0, 2, 0, math.MinInt, 1, 1 << 32, 2}, []int{2, 1}},
		{"the barrier", []int{0, 0, 1, 1, 1, 1, 0, 0, 1, 1, 1, 0, 0, 1, 1, 1}, []int{6, 8}}, {"behind it", []int{0, 0, 1, 1, 1, 1, 0, 0, 1, 1, 1, 0, 0, 1, 0, 1, 0, 1}, []int{8, 9}},
		{"no room to go back", []int{0, 0, 1, 1, 1, 1, 0, 0, 1, 1, 1, 1, 0, 0, 0, 0, 1, 0}, []int{7, 8}}, {"all", []int{0, 0, 1, 1, 1, 1, 0, 0, 1, 1, 1, 0, 0, 1, 0, 1, 0, 1, 0}, []int{9, 9}}, {"more than all", slices.Repeat([]int{1, 0}, 40), []int{9, 9}},
	} {
		got := checkTurns(t, c.name, p, c.picks)
		if !slices.Equal(places(got), c.want) || impl.Left(got) != 18-c.want[0]-c.want[1] {
			t.Errorf("%s: behind %v they are at %v, want %v", c.name, c.picks, places(got), c.want)
		}
		if same := impl.SamePipe(got, p); same != (c.want[0]+c.want[1] == 0) {
			t.Errorf("%s: behind %v SamePipe is %v", c.name, c.picks, same)
		}
	}
}

func TestRunOfAsManyPicksAsMayBe(t *testing.T) {
	p := twoStages(t)
	// The stage that must wait, and stages that there are not, have turns, too.
	for _, s := range []int{1, -1, 2, math.MaxInt} {
		waits := slices.Repeat([]int{s}, impl.MaxPicks)
		if got := impl.Run(p, append(waits[:impl.MaxPicks-1:impl.MaxPicks-1], 0)); !slices.Equal(places(got), []int{1, 0}) {
			t.Errorf("the last turn of as many as may be is not done: %s", brief(got))
		}
		if got := impl.Run(p, append(waits[:impl.MaxPicks-1:impl.MaxPicks-1], 0, 0, 0)); !slices.Equal(places(got), []int{1, 0}) {
			t.Errorf("the turns behind as many as may be: %s", brief(got))
		}
		if got := impl.Run(p, append(waits, 0, 0, 0)); !like(got, p) {
			t.Errorf("the turns behind as many as may be: %s", brief(got))
		}
	}
	for stages := 1; stages <= impl.MaxStages; stages++ {
		p := longPipe(stages, impl.MaxPicks+100)
		for _, n := range []int{1, impl.MaxPicks - 1, impl.MaxPicks, impl.MaxPicks + 1, 300000} {
			for s := range stages {
				want := make([]int, stages)
				want[s] = min(n, 2000)
				if got := impl.Run(p, slices.Repeat([]int{s}, n)); !slices.Equal(places(got), want) {
					t.Errorf("%d turns of stage %d of %d: %v, want %v", n, s, stages, places(got), want)
				}
			}
		}
	}
}

func TestRunsOfPipesThatAreNotRight(t *testing.T) {
	checkNoTurns(t, "the zero one", impl.Pipe{})
	eachFullPipe(func(right impl.Pipe) {
		n := 0
		eachPipeFault(right, func(name string, p impl.Pipe) {
			if n++; n%17 == 0 || len(p.Stages) == 0 {
				checkNoTurns(t, name, p)
			}
		})
	})
	// One in which a stage may go on, but for the fault.
	p := impl.Run(twoStages(t), []int{0, 0})
	checkEnabledAll(t, "right", p, 0, 1)
	eachPipeFault(p, func(name string, p impl.Pipe) { checkNoTurns(t, name, p) })
	five := plainPipe(impl.MaxStages + 1)
	checkNoTurns(t, "more than MaxStages", five)
	five.Stages = slices.Repeat(five.Stages, 500)
	checkNoTurns(t, "many more than MaxStages", five)
}

// TestRunThatMakesAPipeBeNotRight pops off what does not fit: the turns behind that one change nothing any more.
func TestRunThatMakesAPipeBeNotRight(t *testing.T) {
	p := plainPipe(2)
	p.Acts[0].Items = []impl.Item{item(0, 1, 2)}
	p.Stages[0].Plan, p.Stages[1].Plan = planOf("redo0 redo1 flush0"), planOf("recv0 fwd0 flush0")
	for _, c := range []struct {
		picks []int
		want  []int
	}{
		{[]int{0, 0}, []int{2, 0}}, {[]int{0, 1, 0, 1, 0}, []int{1, 1}}, {[]int{1, 0, 0, 1}, []int{0, 1}},
	} {
		if got := checkTurns(t, "not right any more", p, c.picks); !slices.Equal(places(got), c.want) {
			t.Errorf("behind %v they are at %v, want %v", c.picks, places(got), c.want)
		}
	}
}

func TestRounds(t *testing.T) {
	p := twoStages(t)
	for _, c := range []struct {
		n    int
		want []int
	}{
		{math.MinInt, []int{0, 0}}, {-2000, []int{0, 0}}, {-1, []int{0, 0}}, {0, []int{0, 0}}, {1, []int{1, 0}},
		// Stage 1 must wait in the first round, and has a turn all the same.
		{2, []int{1, 0}}, {3, []int{2, 0}}, {4, []int{2, 1}}, {5, []int{3, 1}}, {6, []int{3, 2}}, {7, []int{4, 2}}, {8, []int{4, 3}}, {9, []int{4, 3}}, {10, []int{4, 4}}, {11, []int{5, 4}},
		{36, []int{9, 9}}, {37, []int{9, 9}}, {2000, []int{9, 9}}, {2001, []int{9, 9}}, {math.MaxInt, []int{9, 9}},
	} {
		if got := checkRounds(t, "two stages", p, c.n); !slices.Equal(places(got), c.want) {
			t.Errorf("behind %d turns they are at %v, want %v", c.n, places(got), c.want)
		}
	}
	for stages := 1; stages <= impl.MaxStages; stages++ {
		p := longPipe(stages, impl.MaxPicks+100)
		for _, n := range []int{math.MinInt, -1, 0, 1, stages - 1, stages, stages + 1, 2*stages - 1, 2 * stages, 2*stages + 1, impl.MaxPicks - 1, impl.MaxPicks, impl.MaxPicks + 1, impl.MaxPicks + stages, 2 * impl.MaxPicks, 1 << 32, math.MaxInt} {
			want := make([]int, stages)
			for s := range want {
				// So many turns of it, as each is the first one of its round.
				want[s] = (max(0, min(n, 2000)) + stages - 1 - s) / stages
			}
			if got := impl.Rounds(p, n); !slices.Equal(places(got), want) {
				t.Errorf("of %d stages, behind %d turns they are at %v, want %v", stages, n, places(got), want)
			}
		}
		if got := impl.Rounds(p, stages+1); !like(got, impl.Run(p, append(counting(0, stages), 0))) {
			t.Errorf("of %d stages, a round and a turn: %v", stages, places(got))
		}
	}
}

func TestRoundsOfPipesWithoutStages(t *testing.T) {
	full := fullPipe(3, true)
	for _, p := range []impl.Pipe{{}, {Stages: []impl.Stage{}}, {Batch: full.Batch}, {Batch: full.Batch, Acts: full.Acts, Backs: full.Backs}} {
		for _, n := range []int{math.MinInt, -1, 0, 1, 2, 5, impl.MaxPicks, impl.MaxPicks + 1, math.MaxInt} {
			if got := impl.Rounds(p, n); !like(got, p) {
				t.Errorf("Rounds(%s, %d) = %s", brief(p), n, brief(got))
			}
		}
		checkNoTurns(t, "no stages", p)
	}
}

func TestRunsWithAnythingInThePipe(t *testing.T) {
	r := rand.New(rand.NewPCG(14, 41))
	went, stayed := 0, 0
	for range 5000 {
		p := anyPipe(r)
		picks := make([]int, r.IntN(12))
		for i := range picks {
			picks[i] = r.IntN(len(p.Stages)+2) - 1
		}
		if got := checkTurns(t, "any", p, picks); len(picks) > 0 && impl.SamePipe(got, p) {
			stayed++
		} else {
			went++
		}
		checkRounds(t, "any", p, r.IntN(3*len(p.Stages)+1))
		checkEnabledAll(t, "any", p, wantEnabledAll(p)...)
	}
	if went < 1000 || stayed < 1000 {
		t.Errorf("%d went on, %d stayed: the test asks too little", went, stayed)
	}
}

// checkGradients wants what one alone finds.
func checkGradients(t *testing.T, a asked) impl.Grads {
	t.Helper()
	want := impl.Sequential(a.C.Model, a.B)
	got, code := impl.Gradients(a.C, a.B)
	if code != impl.AdOk || !alike(got, want) || !impl.SameGrads(got, want) {
		t.Fatalf("Gradients(%s) = %v, %d, one alone finds %v", brief(a), got, code, want)
	}
	return got
}

func TestGradients(t *testing.T) {
	m := model(op(impl.OpScale, 1, 2*one), op(impl.OpBias, 1, one))
	// 7 is 2 more than 5, 1 is as it should be, -1 is 4 less than 3.
	b := []impl.Pair{pair([]int{3 * one}, []int{5 * one}), pair([]int{0}, []int{one}), pair([]int{-one}, []int{3 * one})}
	sums := []impl.Grads{grads(2*one, false, []int{6 * one}, []int{2 * one}), grads(2*one, false, []int{6 * one}, []int{2 * one}), grads(10*one, false, []int{10 * one}, []int{-2 * one})}
	for pairs := 1; pairs <= 3; pairs++ {
		for _, ds := range bothDs {
			for _, redo := range []bool{false, true} {
				for _, cuts := range [][]int{nil, {1}} {
					a := tightAsked(m, cuts, ds, slices.Repeat([]bool{redo}, len(cuts)+1), pairs)
					a.B = b[:pairs]
					if got := checkGradients(t, a); !alike(got, sums[pairs-1]) {
						t.Errorf("Gradients(%s) = %v, want %v", brief(a), got, sums[pairs-1])
					}
				}
			}
		}
	}
	// Twice the greatest number is out of the range.
	a := tightAsked(m, []int{1}, impl.DsOne, []bool{true, false}, 2)
	a.B = []impl.Pair{pair([]int{most}, []int{most}), pair([]int{0}, []int{one})}
	if got := checkGradients(t, a); !got.Sat {
		t.Errorf("Gradients(%s) = %v, want a mark", brief(a), got)
	}
}

func TestGradientsOfWhatIsAdmitted(t *testing.T) {
	marked, plain := 0, 0
	runsOf(func(a asked, n int) {
		for _, by := range []asked{a, withCaps(a, 1), withCaps(a, impl.MaxMicro)} {
			if got := checkGradients(t, by); got.Sat {
				marked++
			} else if got.Loss > 0 {
				plain++
			}
		}
	})
	if marked < 100 || plain < 100 {
		t.Errorf("%d ran over, %d did not: the test asks too little", marked, plain)
	}
}

func TestGradientsOfEachCut(t *testing.T) {
	for _, m := range append(stageModels(), gentleModel(impl.MaxOps, 1, 2, 1), chainOf(impl.MaxOps, 3, 1, 2)) {
		in, out := wantModel(m)
		for stages := 1; stages <= min(len(m.Ops), impl.MaxStages); stages++ {
			for i, cuts := range wantAllCuts(len(m.Ops), stages) {
				redo := make([]bool, stages)
				redo[i%stages] = true
				a := tightAsked(m, cuts, bothDs[i%2], redo, 1+i%impl.MaxMicro)
				a.B = gentleBatch(in, out, len(a.B))
				checkGradients(t, a)
			}
		}
	}
}

func TestGradientsOfWhatIsNotAdmitted(t *testing.T) {
	told := map[int]int{}
	none := func(a asked, code int) {
		t.Helper()
		told[code]++
		if got, gotCode := impl.Gradients(a.C, a.B); !isZeroGrads(got) || gotCode != code || wantAdmit(a) != code {
			t.Fatalf("Gradients(%s) = %v, %d, want the zero one and %d", brief(a), got, gotCode, code)
		}
	}
	eachTight(func(a asked) {
		for code, l := range faultsOf(a) {
			for _, f := range l {
				wrong := plainOf(a)
				f.change(&wrong)
				none(wrong, code)
			}
		}
	})
	eachWrongModel(func(m impl.Model, p impl.Pair) {
		none(asked{impl.Config{Model: m, Ds: impl.DsAll, Redo: []bool{false}, Limits: []int{impl.MaxLimit}}, []impl.Pair{p}}, impl.AdModel)
	})
	none(asked{}, impl.AdModel)
	for code := impl.AdModel; code <= impl.AdMemory; code++ {
		if told[code] == 0 {
			t.Errorf("nothing is told of reason %d", code)
		}
	}
}

func TestGradientsOfAnything(t *testing.T) {
	r := rand.New(rand.NewPCG(41, 14))
	made := 0
	for range 3000 {
		a := anyAsked(r)
		code := wantAdmit(a)
		if code == impl.AdOk {
			made++
			checkGradients(t, a)
		} else if got, gotCode := impl.Gradients(a.C, a.B); !isZeroGrads(got) || gotCode != code {
			t.Fatalf("Gradients(%s) = %v, %d, want the zero one and %d", brief(a), got, gotCode, code)
		}
	}
	if made < 300 || made > 2700 {
		t.Errorf("%d of 3000 were admitted: the test asks too little", made)
	}
}

func checkTotal(t *testing.T, c impl.Config, micro, want int) {
	t.Helper()
	if by := wantTotal(c, micro); by != want {
		t.Fatalf("the test wants %d of %s and %d, by the chapters it is %d", want, brief(c), micro, by)
	}
	if got := impl.Total(c, micro); got != want {
		t.Fatalf("Total(%s, %d) = %d, want %d", brief(c), micro, got, want)
	}
}

func TestTotal(t *testing.T) {
	m := chainOf(impl.MaxOps, 1, 1, 2)
	for _, c := range []struct {
		cuts  []int
		redo  []bool
		micro int
		want  int
	}{
		// fwd, bwd and flush.
		{nil, []bool{false}, 1, 3}, {nil, []bool{true}, 1, 4}, {nil, []bool{false}, 5, 11}, {nil, []bool{true}, 5, 16},
		// Each queue, of both kinds, is pushed to and popped from once for each micro-batch.
		{[]int{3}, []bool{false, false}, 1, 10}, {[]int{3}, []bool{true, false}, 1, 11}, {[]int{3}, []bool{false, true}, 1, 11}, {[]int{3}, []bool{true, true}, 5, 52}, {[]int{1, 7}, []bool{false, false, false}, 2, 31},
		{[]int{1, 2, 3}, make([]bool, 4), 1, 24}, {[]int{1, 2, 3}, make([]bool, 4), 5, 104}, {[]int{1, 2, 3}, []bool{true, true, true, true}, 3, 76}, {[]int{1, 2, 3}, []bool{true, true, true, true}, 5, 124}, {[]int{2, 4, 6}, []bool{false, true, true, false}, 5, 114},
		{nil, []bool{true}, 0, 0}, {nil, []bool{true}, 6, 0}, {nil, []bool{true}, -1, 0}, {[]int{1, 2, 3}, make([]bool, 4), 0, 0}, {[]int{1, 2, 3}, make([]bool, 4), 6, 0}, {[]int{1, 2, 3}, make([]bool, 4), math.MinInt, 0}, {[]int{1, 2, 3}, make([]bool, 4), math.MaxInt, 0}, {[]int{1}, make([]bool, 2), 1<<32 + 1, 0},
		// Fewer have a Redo than there are stages: these alone.
		{nil, nil, 5, 0}, {[]int{3}, nil, 1, 0}, {[]int{3}, []bool{false}, 1, 5}, {[]int{3}, []bool{true}, 2, 11}, {[]int{1, 2, 3}, []bool{false}, 5, 21}, {[]int{1, 2, 3}, []bool{false, true}, 5, 57}, {[]int{1, 2, 3}, []bool{false, true, false}, 1, 20},
		// More have one.
		{nil, []bool{false, true}, 1, 3}, {nil, make([]bool, 300), 5, 11}, {[]int{3}, []bool{true, true, true}, 5, 52}, {[]int{1, 2, 3}, make([]bool, 5), 5, 104}, {[]int{1, 2, 3}, []bool{true, true, true, true, true}, 5, 124},
		// Cuts that are not right, and more stages than may be.
		{[]int{0}, make([]bool, 2), 1, 0}, {[]int{8}, make([]bool, 2), 1, 0}, {[]int{2, 2}, make([]bool, 3), 1, 0}, {[]int{3, 2}, make([]bool, 3), 1, 0}, {[]int{1, 2, 3, 4}, make([]bool, 5), 1, 0}, {[]int{1, 2, 3, 4}, make([]bool, 4), 1, 0}, {counting(1, 8), make([]bool, 8), 5, 0}, {[]int{-1}, []bool{true}, 1, 0},
	} {
		for _, ds := range bothDs {
			// What the other fields are does not matter.
			for _, config := range []impl.Config{{Model: m, Cuts: c.cuts, Ds: ds, Redo: c.redo}, {Model: m, Cuts: c.cuts, Ds: ds, Redo: c.redo, Caps: []int{0, 9}, Limits: []int{-1}}} {
				checkTotal(t, config, c.micro, c.want)
			}
		}
		for _, ds := range append(farNumbers, -1, 0, 3, 4) {
			checkTotal(t, impl.Config{Model: m, Cuts: c.cuts, Ds: ds, Redo: c.redo}, c.micro, 0)
		}
	}
	checkTotal(t, impl.Config{}, 1, 0)
	eachWrongModel(func(m impl.Model, _ impl.Pair) {
		for _, cuts := range [][]int{nil, {1}} {
			checkTotal(t, impl.Config{Model: m, Cuts: cuts, Ds: impl.DsOne, Redo: []bool{true, false}}, 2, 0)
		}
	})
}

func TestTotalOfEachConfig(t *testing.T) {
	m := gentleModel(impl.MaxOps, 2, 1, 1)
	for stages := 1; stages <= impl.MaxOps; stages++ {
		ways := wantAllCuts(impl.MaxOps, stages)
		for i, redo := range redosFor(stages) {
			for _, ds := range []int{0, impl.DsAll, impl.DsOne, 3} {
				for _, micro := range postNumbers {
					config := impl.Config{Model: m, Cuts: ways[(3*i+ds)%len(ways)], Ds: ds, Redo: redo}
					checkTotal(t, config, micro, wantTotal(config, micro))
				}
			}
		}
	}
}

func TestTotalIsLeftOfTheNewPipe(t *testing.T) {
	check := func(a asked) {
		if got, left := impl.Total(a.C, len(a.B)), impl.Left(laidOut(t, a)); got != left {
			t.Fatalf("Total of %s is %d, but there are %d left", brief(a), got, left)
		}
	}
	eachTight(check)
	runsOf(func(a asked, _ int) { check(a) })
}

func TestEnabledAll(t *testing.T) {
	p := twoStages(t)
	checkEnabledAll(t, "new", p, 0)
	for _, c := range []struct {
		name  string
		picks []int
		want  []int
	}{
		{"it may send", []int{0}, []int{0}}, {"it was sent", []int{0, 0}, []int{0, 1}}, {"no room", []int{0, 0, 0}, []int{1}}, {"room again", []int{0, 0, 0, 1}, []int{0, 1}}, {"nothing came back", []int{0, 0, 0, 1, 0}, []int{1}},
		{"one at the barrier", []int{0, 0, 0, 1, 0, 1, 1, 1, 1, 1, 1, 0, 0, 1}, []int{0}}, {"still", []int{0, 0, 0, 1, 0, 1, 1, 1, 1, 1, 1, 0, 0, 1, 0}, []int{0}}, {"all at the barrier", []int{0, 0, 0, 1, 0, 1, 1, 1, 1, 1, 1, 0, 0, 1, 0, 0}, []int{0, 1}},
		{"one is done", []int{0, 0, 0, 1, 0, 1, 1, 1, 1, 1, 1, 0, 0, 1, 0, 0, 0}, []int{1}}, {"the other one is done", []int{0, 0, 0, 1, 0, 1, 1, 1, 1, 1, 1, 0, 0, 1, 0, 0, 1}, []int{0}}, {"all is done", []int{0, 0, 0, 1, 0, 1, 1, 1, 1, 1, 1, 0, 0, 1, 0, 0, 1, 0}, nil},
	} {
		checkEnabledAll(t, c.name, checkTurns(t, c.name, p, c.picks), c.want...)
	}
	for stages := 1; stages <= impl.MaxStages; stages++ {
		p := plainPipe(stages)
		checkEnabledAll(t, "all at the barrier", p, counting(0, stages)...)
		for s := range stages {
			checkEnabledAll(t, "one has not come", facing(p, s, impl.InFwd, 0), s)
			checkEnabledAll(t, "one has not come, and must wait", facing(p, s, impl.InRecv, 0))
			p := impl.Run(plainPipe(stages), []int{s})
			checkEnabledAll(t, "one is done", p, slices.DeleteFunc(counting(0, stages), func(other int) bool { return other == s })...)
		}
		checkEnabledAll(t, "all is done", impl.Run(p, counting(0, stages)))
		p.Batch = nil
		checkEnabledAll(t, "not right", p)
	}
	checkEnabledAll(t, "no stages", impl.Pipe{})
}

func TestEnabledAllOnTheWay(t *testing.T) {
	several := 0
	runsOf(func(a asked, n int) {
		p := laidOut(t, a)
		l := turnOrders(uint64(n))
		for by := l[n%len(l)]; !impl.Done(p); {
			may := impl.EnabledAll(p)
			if !slices.Equal(may, enabledOf(p)) || len(may) == 0 {
				t.Fatalf("EnabledAll(%s) = %v, want %v", brief(p), may, enabledOf(p))
			}
			if len(may) > 2 {
				several++
			}
			p = impl.Run(p, []int{by.pick(may, p)})
		}
		checkEnabledAll(t, "done", p)
	})
	if several < 100 {
		t.Errorf("just %d times more than two could go on", several)
	}
}

// checkAtEnd wants all to be done, as one alone would do it, and nothing to be held.
func checkAtEnd(t *testing.T, name string, a asked, p impl.Pipe) {
	t.Helper()
	want := impl.Sequential(a.C.Model, a.B)
	if got := impl.ResultOf(p); !impl.Done(p) || !impl.SameGrads(got, want) || !alike(got, want) {
		t.Fatalf("%s, of %s: %d are left, and ResultOf is %v, one alone finds %v", name, brief(a), impl.Left(p), got, want)
	}
	for s := range p.Stages {
		if impl.Ledger(p.Stages[s]) != 0 || impl.Next(p, s) != (impl.Ins{}) {
			t.Fatalf("%s, of %s: stage %d holds something: %s", name, brief(a), s, brief(p.Stages[s]))
		}
	}
	for _, q := range slices.Concat(p.Acts, p.Backs) {
		if len(q.Items) != 0 {
			t.Fatalf("%s, of %s: a queue holds something: %s", name, brief(a), brief(q))
		}
	}
	checkNoTurns(t, name, p)
}

// turnList says who has the turn, whether it must wait or not.
type turnList struct {
	name string
	at   func(turn int) int
}

func turnLists(stages int, seed uint64) []turnList {
	r := rand.New(rand.NewPCG(seed, 14))
	anyOf := func() int { return r.IntN(stages) }
	mostly := func(s int) func(int) int {
		return func(int) int {
			if r.IntN(3) == 0 {
				return anyOf()
			}
			return s
		}
	}
	return []turnList{
		{"one behind the other", func(turn int) int { return turn % stages }},
		{"from the last one on", func(turn int) int { return stages - 1 - turn%stages }},
		{"any", func(int) int { return anyOf() }},
		{"also such as there are not", func(int) int { return r.IntN(stages+2) - 1 }},
		{"for long", func(turn int) int { return turn / 7 % stages }},
		{"for longer, from the last one on", func(turn int) int { return stages - 1 - turn/19%stages }},
		{"mostly the first", mostly(0)},
		{"mostly the last", mostly(stages - 1)},
	}
}

// TestSameBits is of whole runs in which who must wait has turns, too.
func TestSameBits(t *testing.T) {
	marked, plain, waits := 0, 0, 0
	runsOf(func(a asked, n int) {
		lists := turnLists(a.stages(), uint64(n))
		for i, by := range []asked{a, withCaps(a, 1), withCaps(a, impl.MaxMicro)} {
			list := lists[(n+3*i)%len(lists)]
			p := laidOut(t, by)
			left := impl.Left(p)
			for turn := 0; !impl.Done(p); turn += 1 + n%97 {
				if turn > 100*left {
					t.Fatalf("%s, of %s: %d are left", list.name, brief(by), impl.Left(p))
				}
				picks := make([]int, 1+n%97)
				for at := range picks {
					picks[at] = list.at(turn + at)
				}
				next := impl.Run(p, picks)
				waits += len(picks) - impl.Left(p) + impl.Left(next)
				p = next
			}
			checkAtEnd(t, list.name, by, p)
		}
		if impl.Sequential(a.C.Model, a.B).Sat {
			marked++
		} else {
			plain++
		}
	})
	if marked < 50 || plain < 50 || waits < 10000 {
		t.Errorf("%d ran over, %d did not, %d turns were of stages that must wait: the test asks too little", marked, plain, waits)
	}
}

// eachMark calls f with chains of so many operations and batches in which one step alone is out of the range, where sat is true, and with such as are next to them.
func eachMark(ops int, f func(name string, m impl.Model, b []impl.Pair, sat bool)) {
	chain := func(each impl.Op, at int, o impl.Op) impl.Model {
		m := impl.Model{Ops: slices.Repeat([]impl.Op{each}, ops)}
		m.Ops[at] = o
		return m
	}
	among := func(plain, other impl.Pair, at int) []impl.Pair {
		b := []impl.Pair{plain, plain, plain}
		b[at] = other
		return b
	}
	scale, bias := op(impl.OpScale, 1, one), op(impl.OpBias, 1, 0)
	x := func(x, t int) impl.Pair { return pair([]int{x}, []int{t}) }
	for at := range ops {
		for m := range 3 {
			f("ahead", chain(scale, at, op(impl.OpBias, 1, most)), among(x(0, most), x(1, most), m), true)
			f("not ahead", chain(scale, at, op(impl.OpBias, 1, most)), among(x(0, most), x(-1, most-1), m), false)
			f("back", chain(scale, at, op(impl.OpScale, 1, most)), among(x(0, 0), x(0, -2*one), m), true)
			f("not back", chain(scale, at, op(impl.OpScale, 1, most)), among(x(0, 0), x(0, -one), m), false)
		}
		half := x(most/2, most/2-one)
		f("the sum of gradients", chain(bias, at, scale), []impl.Pair{half, half, half}, true)
		f("no sum of gradients", chain(bias, at, scale), []impl.Pair{half, half}, false)
	}
	for m := range 3 {
		f("a loss", chain(bias, 0, bias), among(x(0, 0), x(0, 182*one), m), true)
		f("no loss", chain(bias, 0, bias), among(x(0, 0), x(0, 181*one), m), false)
	}
	f("the sum of losses", chain(bias, 0, bias), slices.Repeat([]impl.Pair{x(0, 150*one)}, 3), true)
	f("no sum of losses", chain(bias, 0, bias), slices.Repeat([]impl.Pair{x(0, 150*one)}, 2), false)
}

// TestOneMarkIsEnough has one step out of the range, in each stage by turns: Sat tells of it, however the chain is cut.
func TestOneMarkIsEnough(t *testing.T) {
	const ops = 4
	eachMark(ops, func(name string, m impl.Model, b []impl.Pair, sat bool) {
		if got := impl.Sequential(m, b); got.Sat != sat {
			t.Fatalf("%s: Sequential(%s, %s) = %v", name, brief(m), brief(b), got)
		}
		for stages := 1; stages <= ops; stages++ {
			for i, cuts := range wantAllCuts(ops, stages) {
				for _, first := range []bool{false, true} {
					redo := make([]bool, stages)
					for s := range redo {
						redo[s] = (s%2 == 0) == first
					}
					a := tightAsked(m, cuts, bothDs[i%2], redo, len(b))
					a.B = b
					checkGradients(t, a)
					checkAtEnd(t, name, a, impl.Rounds(laidOut(t, a), impl.MaxPicks))
				}
			}
		}
	})
}

// TestAsManyRoundsAsInstructions gives each stage one turn in each round.
func TestAsManyRoundsAsInstructions(t *testing.T) {
	runsOf(func(a asked, n int) {
		stages := a.stages()
		r := rand.New(rand.NewPCG(uint64(n), 15))
		for _, by := range []asked{a, withCaps(a, 1+n%2*(impl.MaxMicro-1))} {
			p := laidOut(t, by)
			rounds := impl.Left(p)
			if rounds*stages > impl.MaxPicks {
				t.Fatalf("%d rounds of %d turns are more than may be", rounds, stages)
			}
			checkAtEnd(t, "Rounds", by, impl.Rounds(p, rounds*stages))
			back := slices.Repeat(counting(0, stages), rounds)
			slices.Reverse(back)
			checkAtEnd(t, "rounds from the last one on", by, impl.Run(p, back))
			var mixed []int
			for range rounds {
				mixed = append(mixed, r.Perm(stages)...)
			}
			checkAtEnd(t, "rounds of any order", by, impl.Run(p, mixed))
		}
	})
}

// TestRunsTurnByTurn holds a run against the chapters' words, and against one that is broken off and gone on with.
func TestRunsTurnByTurn(t *testing.T) {
	runsOf(func(a asked, n int) {
		if n%6 != 0 {
			return // it takes long
		}
		p := laidOut(t, a)
		lists := turnLists(a.stages(), uint64(n))
		list := lists[n/6%len(lists)]
		picks := make([]int, 20+n%70)
		for turn := range picks {
			picks[turn] = list.at(turn)
		}
		whole := checkTurns(t, list.name, p, picks)
		cut := n % len(picks)
		if parts := impl.Run(impl.Run(p, picks[:cut]), picks[cut:]); !like(parts, whole) {
			t.Fatalf("%s, of %s: broken off at %d: %s, want %s", list.name, brief(a), cut, brief(parts), brief(whole))
		}
		checkRounds(t, "rounds", p, len(picks))
	})
}

// checkRunMemory says where what is asked of a run writes into what is handed in, or tells what is not new memory.
func checkRunMemory(t *testing.T, of impl.Pipe, ofPicks []int) {
	t.Helper()
	p, picks := roomyOf(of), roomyOf(ofPicks)
	wasPipe, wasPicks := wholeOf(p), wholeOf(picks)
	things := []any{p, picks}
	for _, n := range []int{0, len(picks)} {
		run, rounds, none := impl.Run(p, picks), impl.Rounds(p, n), impl.Run(p, nil)
		if !like(run, impl.Run(of, ofPicks)) || !like(rounds, impl.Rounds(of, n)) || !like(none, of) {
			t.Fatalf("a run of %s with room behind its lists: %s and %s", brief(of), brief(run), brief(rounds))
		}
		things = append(things, run, rounds, none, impl.EnabledAll(p))
	}
	if !reflect.DeepEqual(wholeOf(p), wasPipe) || !slices.Equal(wholeOf(picks), wasPicks) {
		t.Fatalf("a run of %s and %v wrote into what was handed in: %s and %v", brief(wasPipe), wasPicks, brief(wholeOf(p)), wholeOf(picks))
	}
	if !apart(things...) {
		t.Fatalf("of a run of %s and %v: an answer shares memory", brief(of), ofPicks)
	}
	was := make([]any, len(things))
	for i := 2; i < len(things); i++ {
		was[i] = fmt.Sprint(things[i])
	}
	overwriteAll(reflect.ValueOf(p))
	overwriteAll(reflect.ValueOf(picks))
	for i := 2; i < len(things); i++ {
		if now := fmt.Sprint(things[i]); now != was[i] {
			t.Fatalf("of a run of %s and %v: an answer became %s, was %s", brief(of), ofPicks, now, was[i])
		}
	}
}

func TestRunsAreNewMemory(t *testing.T) {
	runsOf(func(a asked, n int) {
		if n%9 != 0 {
			return
		}
		p := laidOut(t, a)
		r := rand.New(rand.NewPCG(uint64(n), 41))
		for !impl.Done(p) {
			picks := make([]int, r.IntN(40))
			for i := range picks {
				picks[i] = r.IntN(a.stages()+2) - 1
			}
			checkRunMemory(t, p, picks)
			p = impl.Run(p, picks)
		}
		checkRunMemory(t, p, []int{0, 1})
	})
	checkRunMemory(t, impl.Pipe{}, []int{0, 1})
	eachFullPipe(func(right impl.Pipe) {
		checkRunMemory(t, right, []int{0, 1, 2, 3, 0, 0})
		n := 0
		eachPipeFault(right, func(_ string, p impl.Pipe) {
			if n++; n%97 == 0 {
				checkRunMemory(t, p, []int{0, 1, 2, 3, 0, 0})
			}
		})
	})
	r := rand.New(rand.NewPCG(14, 42))
	for range 300 {
		checkRunMemory(t, anyPipe(r), []int{3, 2, 1, 0, -1, 0, 1, 2, 3})
	}
}

func TestGradientsOfRunsAreNewMemory(t *testing.T) {
	check := func(of asked) {
		want, wantCode := impl.Gradients(of.C, of.B)
		given := roomyOf(of)
		was := wholeOf(given)
		one, code := impl.Gradients(given.C, given.B)
		two, _ := impl.Gradients(given.C, given.B)
		total := impl.Total(given.C, len(given.B))
		if !reflect.DeepEqual(wholeOf(given), was) {
			t.Fatalf("Gradients or Total wrote into what was handed in: %s, was %s", brief(wholeOf(given)), brief(was))
		}
		if !apart(given, one, two) {
			t.Fatalf("Gradients(%s) shares memory", brief(of))
		}
		overwriteAll(reflect.ValueOf(given))
		overwriteAll(reflect.ValueOf(two))
		if !alike(one, want) || code != wantCode || total != impl.Total(of.C, len(of.B)) {
			t.Fatalf("Gradients(%s) is %v, %d behind a change, want %v, %d", brief(of), one, code, want, wantCode)
		}
	}
	runsOf(func(a asked, n int) {
		if n%3 == 0 {
			check(a)
		}
	})
	r := rand.New(rand.NewPCG(42, 14))
	for range 300 {
		check(anyAsked(r))
	}
	check(asked{})
}

func TestRunsOfPipesWhoseListsAreOneMemory(t *testing.T) {
	for flags := range 1 << 3 {
		row := []int{2 * one, -3 * one, one}
		p := pipeOfOneMemory(row, flags)
		far := plainOf(p)
		for _, picks := range [][]int{{0, 1, 2, 0, 1, 2, 0, 1, 2, 0, 1, 2}, {2, 2, 2, 2, 1, 1, 1, 1, 0, 0, 0}, row} {
			got := checkTurns(t, "one memory", p, picks)
			if !like(p, far) || !like(got, impl.Run(far, picks)) || !apart(row, got) {
				t.Fatalf("Run(%s, %v) = %s", brief(far), picks, brief(got))
			}
		}
	}
}

func TestRunsOfLongLists(t *testing.T) {
	const many = 20000
	right := fullPipe(3, true)
	for name, change := range map[string]func(p *impl.Pipe){
		"stages": func(p *impl.Pipe) { p.Stages = slices.Repeat(p.Stages[:2], many/100) },
		"pairs":  func(p *impl.Pipe) { p.Batch = slices.Repeat(p.Batch, many) },
		"items":  func(p *impl.Pipe) { p.Acts[0].Items = slices.Repeat(p.Acts[0].Items, many) },
	} {
		p := plainOf(right)
		change(&p)
		if run, rounds := impl.Run(p, make([]int, many)), impl.Rounds(p, many); !impl.SamePipe(run, p) || !impl.SamePipe(rounds, p) || len(impl.EnabledAll(p)) > 0 {
			t.Errorf("a pipe of many %s goes on", name)
		}
	}
	if got := impl.Rounds(longPipe(4, many), many); !slices.Equal(places(got), []int{500, 500, 500, 500}) {
		t.Errorf("of long plans they are at %v", places(got))
	}
}
