package tests

import (
	"math"
	"math/rand/v2"
	"reflect"
	"slices"
	"testing"

	"loop.example/g01407/impl"
)

// farNumbers are far from what a config has, or wrap around into it.
var farNumbers = []int{255, 256, 257, 1 << 32, 1<<32 + 1, 1<<32 + 2, -1<<32 + 1, math.MaxInt, math.MaxInt - 1, math.MinInt, math.MinInt + 1, math.MinInt + 2}

// asked is what is handed to Admit.
type asked struct {
	C impl.Config
	B []impl.Pair
}

func (a asked) stages() int { return len(a.C.Cuts) + 1 }

// wantStages counts the places of the model at which there is a cut: these are all cuts just where none is twice, or at no place.
func wantStages(c impl.Config) int {
	in, _ := wantModel(c.Model)
	if in == 0 || !slices.IsSorted(c.Cuts) {
		return 0
	}
	places := 0
	for place := 1; place < len(c.Model.Ops); place++ {
		if slices.Contains(c.Cuts, place) {
			places++
		}
	}
	if places != len(c.Cuts) {
		return 0
	}
	return places + 1
}

// wantPart are the operations ahead of which there are as many cuts as stages ahead of s.
func wantPart(c impl.Config, s int) []impl.Op {
	var l []impl.Op
	if wantStages(c) == 0 {
		return nil
	}
	for i, o := range c.Model.Ops {
		ahead := 0
		for _, cut := range c.Cuts {
			if cut <= i {
				ahead++
			}
		}
		if ahead == s {
			l = append(l, o)
		}
	}
	return l
}

func wantFullWords(c impl.Config, s int) int {
	sum := 0
	for i, o := range wantPart(c, s) {
		if i == 0 {
			sum = o.In
		}
		sum += o.Out // which is also what goes into the one behind it
	}
	return sum
}

func doesRedo(c impl.Config, s int) bool { return s >= 0 && s < len(c.Redo) && c.Redo[s] }

func wantSavedWords(c impl.Config, s int) int {
	part := wantPart(c, s)
	if doesRedo(c, s) && len(part) > 0 {
		return part[0].In
	}
	return wantFullWords(c, s)
}

func wantPeak(c impl.Config, s, micro int) int {
	part, stages := wantPart(c, s), wantStages(c)
	if len(part) == 0 || stages > impl.MaxStages || micro < 1 || micro > impl.MaxMicro {
		return 0
	}
	underWay := micro
	if c.Ds == impl.DsOne {
		underWay = wantInFlight(wantPlan(post{ds: impl.DsOne, stages: stages, s: s, micro: micro}))
	}
	peak := max(part[0].In, part[len(part)-1].Out)
	for range underWay {
		peak += wantSavedWords(c, s)
	}
	if doesRedo(c, s) {
		peak += wantFullWords(c, s)
	}
	return peak
}

func wantAdmit(a asked) int {
	in, out := wantModel(a.C.Model)
	between := func(least, most int) func(n int) bool {
		return func(n int) bool { return n < least || n > most }
	}
	misfit := func(p impl.Pair) bool { return !fits(p.X, in) || !fits(p.T, out) }
	stages := wantStages(a.C)
	switch {
	case in == 0:
		return impl.AdModel
	case len(a.B) == 0, len(a.B) > impl.MaxMicro, slices.ContainsFunc(a.B, misfit):
		return impl.AdBatch
	case stages == 0, stages > impl.MaxStages:
		return impl.AdCuts
	case between(1, 2)(a.C.Ds):
		return impl.AdPlan
	case len(a.C.Redo) != stages:
		return impl.AdRedo
	case len(a.C.Caps) != stages-1, slices.ContainsFunc(a.C.Caps, between(1, impl.MaxMicro)):
		return impl.AdQueue
	case len(a.C.Limits) != stages:
		return impl.AdMemory
	}
	for s, limit := range a.C.Limits {
		if between(wantPeak(a.C, s, len(a.B)), 100000)(limit) {
			return impl.AdMemory
		}
	}
	return impl.AdOk
}

// stageNumbers are numbers of stages: all that there are, and some that there are not.
func stageNumbers(stages int) []int {
	return append(append(counting(-2, impl.MaxOps+3), stages-1, stages), farNumbers...)
}

// checkWords says where StagesOf, FullWords or SavedWords is another one than the chapter says.
func checkWords(t *testing.T, c impl.Config) {
	t.Helper()
	if got, want := impl.StagesOf(c), wantStages(c); got != want {
		t.Fatalf("StagesOf(%s) = %d, want %d", brief(c), got, want)
	}
	for _, s := range stageNumbers(len(c.Cuts) + 1) {
		if got, want := impl.FullWords(c, s), wantFullWords(c, s); got != want {
			t.Fatalf("FullWords(%s, %d) = %d, want %d", brief(c), s, got, want)
		}
		if got, want := impl.SavedWords(c, s), wantSavedWords(c, s); got != want {
			t.Fatalf("SavedWords(%s, %d) = %d, want %d", brief(c), s, got, want)
		}
	}
}

func checkPeak(t *testing.T, c impl.Config, s, micro, want int) {
	t.Helper()
	if got := impl.PeakOf(c, s, micro); got != want {
		t.Fatalf("PeakOf(%s, %d, %d) = %d, want %d", brief(c), s, micro, got, want)
	}
}

func checkAdmit(t *testing.T, a asked, want int) {
	t.Helper()
	if by := wantAdmit(a); by != want {
		t.Fatalf("the test wants %d of %s, by the chapter it is %d", want, brief(a), by)
	}
	if got := impl.Admit(a.C, a.B); got != want {
		t.Fatalf("Admit(%s) = %d, want %d", brief(a), got, want)
	}
}

// redosFor are lists with one for each stage, and with fewer and more of them.
func redosFor(stages int) [][]bool {
	l := [][]bool{nil, make([]bool, stages), slices.Repeat([]bool{true}, stages), slices.Repeat([]bool{true}, stages-1), slices.Repeat([]bool{true}, stages+1), slices.Repeat([]bool{true}, stages+300)}
	for s := range stages {
		alone, others := make([]bool, stages), slices.Repeat([]bool{true}, stages)
		alone[s], others[s] = true, false
		l = append(l, alone, others, others[:s], append(others, false))
	}
	return l
}

// narrowing has as many In and Out as these numbers say, by turns.
func narrowing(sizes ...int) impl.Model {
	var m impl.Model
	for i, size := range sizes[1:] {
		if size == sizes[i] {
			m.Ops = append(m.Ops, filled(opKinds[1+i%4], size, size, one))
		} else {
			m.Ops = append(m.Ops, filled(impl.OpDense, sizes[i], size, one))
		}
	}
	return m
}

// tightAsked is let in, but with one less in any limit it is not.
func tightAsked(m impl.Model, cuts []int, ds int, redo []bool, micro int) asked {
	in, out := wantModel(m)
	a := asked{impl.Config{Model: m, Cuts: cuts, Ds: ds, Redo: redo}, batchFor(in, out, micro)}
	for i := range cuts {
		a.C.Caps = append(a.C.Caps, 1+(i+micro)%impl.MaxMicro)
	}
	for s := range a.stages() {
		a.C.Limits = append(a.C.Limits, wantPeak(a.C, s, micro))
	}
	return plainOf(a)
}

// eachTight calls f with some that are let in: of each number of stages, both plans, each count of pairs, with Redo and without.
func eachTight(f func(a asked)) {
	for stages := 1; stages <= impl.MaxStages; stages++ {
		for i, ops := range []int{5, 6, impl.MaxOps} {
			ways := wantAllCuts(ops, stages)
			for micro := 1; micro <= impl.MaxMicro; micro++ {
				for _, ds := range bothDs {
					redo := make([]bool, stages)
					for s := range redo {
						redo[s] = (s+micro+ds+i)%3 == 0
					}
					f(tightAsked(chainOf(ops, i+micro, ds, 1+i), ways[(7*micro+5*ds)%len(ways)], ds, redo, micro))
				}
			}
		}
	}
}

func TestAdmitConstants(t *testing.T) {
	if impl.MaxLimit != 100000 {
		t.Errorf("MaxLimit = %d", impl.MaxLimit)
	}
	codes := []int{impl.AdOk, impl.AdModel, impl.AdBatch, impl.AdCuts, impl.AdPlan, impl.AdRedo, impl.AdQueue, impl.AdMemory}
	if !slices.Equal(codes, counting(0, 8)) {
		t.Errorf("AdOk to AdMemory are %v", codes)
	}
}

func TestStagesOf(t *testing.T) {
	m := narrowing(2, 2, 3, 3, 1, 1, 1, 4, 4)
	for _, c := range []struct {
		cuts []int
		want int
	}{
		{nil, 1}, {[]int{}, 1}, {[]int{1}, 2}, {[]int{7}, 2}, {[]int{3, 5}, 3}, {[]int{2, 4, 6}, 4}, {[]int{1, 2, 3, 4}, 5}, {[]int{1, 2, 3, 4, 5, 6, 7}, 8}, {[]int{8, 1}[1:], 2}, {[]int{3, 3}[:1], 2},
		{[]int{0}, 0}, {[]int{-1}, 0}, {[]int{8}, 0}, {[]int{9}, 0}, {[]int{3, 3}, 0}, {[]int{3, 2}, 0}, {[]int{0, 1}, 0}, {[]int{1, 8}, 0}, {[]int{1, 2, 3, 4, 5, 6, 7, 8}, 0}, {[]int{0, 1, 2, 3, 4, 5, 6, 7}, 0}, {[]int{math.MinInt}, 0}, {[]int{math.MaxInt}, 0}, {counting(1, 100000), 0},
	} {
		// None of the other fields matters.
		for _, config := range []impl.Config{{Model: m, Cuts: c.cuts}, {Model: m, Cuts: c.cuts, Ds: 3, Redo: make([]bool, 9), Caps: []int{0}, Limits: []int{-1}}} {
			if got := impl.StagesOf(config); got != c.want {
				t.Errorf("StagesOf(%s) = %d, want %d", brief(config), got, c.want)
			}
			checkWords(t, config)
		}
	}
	if got := impl.StagesOf(impl.Config{}); got != 0 {
		t.Errorf("StagesOf of the zero one = %d", got)
	}
}

func TestWordsOfHandMadeStages(t *testing.T) {
	m := narrowing(2, 5, 5, 1, 3) // stages of it have what goes in, what is between, and what comes out
	for _, c := range []struct {
		cuts        []int
		s           int
		full, saved int
	}{
		{nil, 0, 16, 2},
		{[]int{1}, 0, 7, 2}, {[]int{1}, 1, 14, 5}, {[]int{2}, 0, 12, 2}, {[]int{2}, 1, 9, 5}, {[]int{3}, 0, 13, 2}, {[]int{3}, 1, 4, 1},
		{[]int{1, 3}, 0, 7, 2}, {[]int{1, 3}, 1, 11, 5}, {[]int{1, 3}, 2, 4, 1},
		{[]int{1, 2, 3}, 0, 7, 2}, {[]int{1, 2, 3}, 1, 10, 5}, {[]int{1, 2, 3}, 2, 6, 5}, {[]int{1, 2, 3}, 3, 4, 1},
		{nil, 1, 0, 0}, {nil, -1, 0, 0}, {[]int{1}, 2, 0, 0}, {[]int{1}, -1, 0, 0}, {[]int{1, 2, 3}, 4, 0, 0}, {[]int{0}, 0, 0, 0}, {[]int{4}, 0, 0, 0}, {[]int{2, 2}, 1, 0, 0}, {[]int{2, 1}, 0, 0, 0},
	} {
		for _, redo := range redosFor(len(c.cuts) + 1) {
			config := impl.Config{Model: m, Cuts: c.cuts, Redo: redo}
			want := c.full
			if doesRedo(config, c.s) {
				want = c.saved
			}
			if full, words := impl.FullWords(config, c.s), impl.SavedWords(config, c.s); full != c.full || words != want {
				t.Errorf("of %v and %d: FullWords = %d, SavedWords = %d, want %d and %d", config, c.s, full, words, c.full, want)
			}
		}
	}
}

func TestWordsOfEachStage(t *testing.T) {
	eachRightCuts(func(m impl.Model, cuts []int) {
		stages := len(cuts) + 1
		redo := make([]bool, stages+len(m.Ops)%3-1)
		for s := range redo {
			redo[s] = (s+len(m.Ops))%2 == 0
		}
		checkWords(t, impl.Config{Model: m, Cuts: cuts, Ds: len(redo), Redo: redo})
	})
	for _, m := range stageModels() {
		for stages := 1; stages <= len(m.Ops); stages++ {
			for _, cuts := range wantAllCuts(len(m.Ops), stages)[:1] {
				for _, redo := range redosFor(stages) {
					checkWords(t, impl.Config{Model: m, Cuts: cuts, Redo: redo})
				}
			}
		}
	}
}

// checkNoneLetIn says where a config without right stages is answered as if it had some.
func checkNoneLetIn(t *testing.T, a asked, code int) {
	t.Helper()
	checkAdmit(t, a, code)
	if got := impl.StagesOf(a.C); got != 0 {
		t.Fatalf("StagesOf(%s) = %d, want 0", brief(a.C), got)
	}
	for _, s := range []int{-1, 0, 1, len(a.C.Cuts), len(a.C.Cuts) + 1, math.MaxInt, math.MinInt} {
		if full, words := impl.FullWords(a.C, s), impl.SavedWords(a.C, s); full != 0 || words != 0 {
			t.Fatalf("of %s and %d: FullWords = %d, SavedWords = %d, want 0", brief(a.C), s, full, words)
		}
		for _, micro := range []int{0, 1, impl.MaxMicro} {
			checkPeak(t, a.C, s, micro, 0)
		}
	}
}

func TestConfigsWithoutRightStages(t *testing.T) {
	config := func(m impl.Model, cuts []int, redo bool) impl.Config {
		stages := min(len(cuts), 5) + 1
		return impl.Config{Model: m, Cuts: cuts, Ds: impl.DsAll, Redo: slices.Repeat([]bool{redo}, stages), Caps: slices.Repeat([]int{1}, stages-1), Limits: slices.Repeat([]int{impl.MaxLimit}, stages)}
	}
	eachWrongModel(func(m impl.Model, p impl.Pair) {
		for _, cuts := range [][]int{nil, {1}, {1, 2}, {0}} {
			for _, redo := range []bool{false, true} {
				checkNoneLetIn(t, asked{config(m, cuts, redo), []impl.Pair{p}}, impl.AdModel)
			}
		}
	})
	for count := 1; count <= impl.MaxOps; count++ {
		m := chainOf(count, count, 1, 2)
		in, out := wantModel(m)
		b := batchFor(in, out, 1+count%impl.MaxMicro)
		for _, cuts := range [][]int{{0}, {-1}, {count}, {count + 1}, {0, 1}, {1, count}, {1, 1}, {count - 1, count - 1}, {2, 1}, {1, 3, 2}, {1, 2, 2}, counting(0, count), counting(1, count+1), counting(1, 100000), {math.MinInt}, {math.MaxInt}, {1<<32 + 1}} {
			for _, redo := range []bool{false, true} {
				checkNoneLetIn(t, asked{config(m, cuts, redo), b}, impl.AdCuts)
			}
		}
	}
}

func TestPeakOfHandMadeStages(t *testing.T) {
	m := narrowing(2, 5, 5, 1, 3)
	for _, c := range []struct {
		cuts      []int
		ds        int
		redo      bool
		s, micro  int
		wantWords int
	}{
		{nil, impl.DsAll, false, 0, 1, 16 + 3}, {nil, impl.DsAll, false, 0, 5, 5*16 + 3}, {nil, impl.DsOne, false, 0, 1, 16 + 3}, {nil, impl.DsOne, false, 0, 5, 16 + 3},
		{nil, impl.DsAll, true, 0, 1, 2 + 3 + 16}, {nil, impl.DsAll, true, 0, 5, 5*2 + 3 + 16}, {nil, impl.DsOne, true, 0, 5, 2 + 3 + 16},
		{[]int{1}, impl.DsAll, false, 0, 3, 3*7 + 5}, {[]int{1}, impl.DsOne, false, 0, 3, 2*7 + 5}, {[]int{1}, impl.DsOne, false, 0, 2, 2*7 + 5}, {[]int{1}, impl.DsOne, false, 0, 1, 7 + 5},
		// Here more goes in than comes out.
		{[]int{1}, impl.DsAll, false, 1, 4, 4*14 + 5}, {[]int{1}, impl.DsOne, false, 1, 4, 14 + 5}, {[]int{1}, impl.DsOne, true, 1, 4, 5 + 5 + 14}, {[]int{1}, impl.DsAll, true, 1, 4, 4*5 + 5 + 14},
		{[]int{1, 2, 3}, impl.DsOne, false, 0, 5, 4*7 + 5}, {[]int{1, 2, 3}, impl.DsOne, false, 1, 5, 3*10 + 5}, {[]int{1, 2, 3}, impl.DsOne, false, 2, 5, 2*6 + 5}, {[]int{1, 2, 3}, impl.DsOne, false, 3, 5, 4 + 3},
		{[]int{1, 2, 3}, impl.DsAll, false, 0, 5, 5*7 + 5}, {[]int{1, 2, 3}, impl.DsAll, false, 3, 5, 5*4 + 3}, {[]int{1, 2, 3}, impl.DsOne, false, 0, 4, 4*7 + 5}, {[]int{1, 2, 3}, impl.DsOne, false, 0, 3, 3*7 + 5},
		// Neither plan: it is all that are under way but with DsOne.
		{[]int{1}, 0, false, 0, 3, 3*7 + 5}, {[]int{1}, 3, true, 1, 3, 3*5 + 5 + 14}, {[]int{1}, math.MinInt, false, 1, 2, 2*14 + 5},
		{nil, impl.DsAll, false, 0, 0, 0}, {nil, impl.DsAll, false, 0, 6, 0}, {nil, impl.DsAll, true, 0, -1, 0}, {nil, impl.DsOne, true, 1, 1, 0}, {nil, impl.DsOne, false, -1, 1, 0}, {[]int{1, 2, 3}, impl.DsAll, true, 4, 1, 0}, {[]int{1, 2, 3}, impl.DsOne, true, -1, 5, 0}, {[]int{4}, impl.DsOne, false, 0, 1, 0},
	} {
		config := impl.Config{Model: m, Cuts: c.cuts, Ds: c.ds, Redo: slices.Repeat([]bool{c.redo}, len(c.cuts)+1)}
		checkPeak(t, config, c.s, c.micro, c.wantWords)
	}
}

func TestPeakOfEachStage(t *testing.T) {
	for _, m := range stageModels() {
		for stages := 1; stages <= min(len(m.Ops), impl.MaxStages); stages++ {
			for i, cuts := range wantAllCuts(len(m.Ops), stages) {
				redos := redosFor(stages)
				for micro := 0; micro <= impl.MaxMicro+1; micro++ {
					for ds := range 4 {
						config := impl.Config{Model: m, Cuts: cuts, Ds: ds, Redo: redos[(i+micro+ds)%len(redos)]}
						for s := -1; s <= stages; s++ {
							checkPeak(t, config, s, micro, wantPeak(config, s, micro))
						}
					}
				}
			}
		}
	}
}

func TestPeakOfWhatThereIsNot(t *testing.T) {
	m := chainOf(impl.MaxOps, 1, 1, 2)
	for stages := 1; stages <= impl.MaxOps; stages++ {
		for _, cuts := range wantAllCuts(impl.MaxOps, stages) {
			for _, redo := range []bool{false, true} {
				config := impl.Config{Model: m, Cuts: cuts, Ds: 1 + len(cuts)%2, Redo: slices.Repeat([]bool{redo}, stages+1)}
				for _, s := range append(farNumbers, -2, -1, stages, stages+1) {
					checkPeak(t, config, s, 1, 0)
				}
				for s := range stages {
					for _, micro := range append(farNumbers, -2, -1, 0, impl.MaxMicro+1) {
						checkPeak(t, config, s, micro, 0)
					}
					if there := impl.PeakOf(config, s, impl.MaxMicro) > 0; there != (stages <= impl.MaxStages) {
						t.Fatalf("PeakOf(%s, %d, %d) > 0 is %v of %d stages", brief(config), s, impl.MaxMicro, there, stages)
					}
				}
			}
		}
	}
}

func TestAdmit(t *testing.T) {
	m := narrowing(2, 5, 5, 1, 3)
	b := batchFor(2, 3, 4)
	right := impl.Config{Model: m, Cuts: []int{1}, Ds: impl.DsOne, Redo: []bool{false, true}, Caps: []int{5}, Limits: []int{2*7 + 5, 5 + 5 + 14}}
	checkAdmit(t, asked{right, b}, impl.AdOk)
	alone := impl.Config{Model: m, Ds: impl.DsAll, Redo: []bool{false}, Limits: []int{4*16 + 3}}
	checkAdmit(t, asked{alone, b}, impl.AdOk)
	alone.Limits = []int{4*16 + 2}
	checkAdmit(t, asked{alone, b}, impl.AdMemory)
	// With one pair less it is enough again.
	checkAdmit(t, asked{alone, b[:3]}, impl.AdOk)
	alone.Limits, alone.Redo = []int{4*2 + 3 + 16}, []bool{true}
	checkAdmit(t, asked{alone, b}, impl.AdOk)
	alone.Limits = []int{4*2 + 3 + 15}
	checkAdmit(t, asked{alone, b}, impl.AdMemory)
	checkAdmit(t, asked{}, impl.AdModel)
	checkAdmit(t, asked{impl.Config{}, b}, impl.AdModel)
	checkAdmit(t, asked{impl.Config{Model: m}, nil}, impl.AdBatch)
	checkAdmit(t, asked{impl.Config{Model: m, Cuts: []int{0}}, b}, impl.AdCuts)
	checkAdmit(t, asked{impl.Config{Model: m}, b}, impl.AdPlan)
	checkAdmit(t, asked{impl.Config{Model: m, Ds: impl.DsAll}, b}, impl.AdRedo)
	checkAdmit(t, asked{impl.Config{Model: m, Ds: impl.DsAll, Redo: []bool{true}, Caps: []int{1}}, b}, impl.AdQueue)
	checkAdmit(t, asked{impl.Config{Model: m, Ds: impl.DsAll, Redo: []bool{true}}, b}, impl.AdMemory)
}

func TestAdmitOfWhatIsRight(t *testing.T) {
	eachTight(func(a asked) {
		checkAdmit(t, a, impl.AdOk)
		for room := 1; room <= impl.MaxMicro; room++ {
			roomy := plainOf(a)
			for i := range roomy.C.Caps {
				roomy.C.Caps[i] = room
			}
			checkAdmit(t, roomy, impl.AdOk)
		}
	})
	for _, m := range stageModels() {
		for stages := 1; stages <= min(len(m.Ops), impl.MaxStages); stages++ {
			for i, cuts := range wantAllCuts(len(m.Ops), stages) {
				checkAdmit(t, tightAsked(m, cuts, bothDs[i%2], slices.Repeat([]bool{i%4 < 2}, stages), 1+i%impl.MaxMicro), impl.AdOk)
			}
		}
	}
}

func TestLimits(t *testing.T) {
	eachTight(func(a asked) {
		micro := len(a.B)
		for s := range a.stages() {
			with := func(limit int) asked {
				made := plainOf(a)
				made.C.Limits[s] = limit
				return made
			}
			peak := impl.PeakOf(a.C, s, micro)
			for _, limit := range []int{peak, peak + 1, impl.MaxLimit - 1, impl.MaxLimit} {
				checkAdmit(t, with(limit), impl.AdOk)
			}
			for _, limit := range append(farNumbers, impl.MaxLimit+1, 2*impl.MaxLimit, -peak, 1<<32+peak) {
				if limit > impl.MaxLimit || limit < 0 {
					checkAdmit(t, with(limit), impl.AdMemory)
				}
			}
			// Each one below PeakOf, not just the one next to it.
			for limit := -1; limit < peak; limit++ {
				checkAdmit(t, with(limit), impl.AdMemory)
			}
		}
		// One pair more, or a Redo turned about, needs other limits.
		if micro < impl.MaxMicro {
			in, out := wantModel(a.C.Model)
			more := asked{a.C, batchFor(in, out, micro+1)}
			checkAdmit(t, more, wantAdmit(more))
		}
		for s := range a.stages() {
			turned := plainOf(a)
			turned.C.Redo[s] = !turned.C.Redo[s]
			checkAdmit(t, turned, wantAdmit(turned))
		}
	})
}

// fault makes of what is let in something that is not, for that reason.
type fault struct {
	code   int
	name   string
	change func(a *asked)
}

// withStages lays what is to be one for each stage out for so many stages, where it is not otherwise wrong.
func (a *asked) withStages(cuts []int) {
	stages := len(cuts) + 1
	a.C.Cuts = cuts
	a.C.Redo = slices.Repeat([]bool{stages%2 == 0}, stages)
	a.C.Caps = slices.Repeat([]int{1}, stages-1)
	a.C.Limits = slices.Repeat([]int{impl.MaxLimit}, stages)
}

func batchFaults(a asked) []fault {
	in, out := wantModel(a.C.Model)
	l := []fault{
		{impl.AdBatch, "no pairs", func(a *asked) { a.B = nil }},
		{impl.AdBatch, "an empty list of pairs", func(a *asked) { a.B = a.B[:0] }},
		{impl.AdBatch, "a pair too many", func(a *asked) { a.B = batchFor(in, out, impl.MaxMicro+1) }},
		{impl.AdBatch, "many pairs too many", func(a *asked) { a.B = batchFor(in, out, impl.MaxMicro+256) }},
	}
	for at := range a.B {
		for _, x := range [][]int{nil, make([]int, in+1), make([]int, in-1), append(make([]int, in-1), most+1)} {
			l = append(l, fault{impl.AdBatch, "an X that does not fit", func(a *asked) {
				if at < len(a.B) {
					a.B[at].X = x
				}
			}})
		}
		for _, to := range [][]int{nil, make([]int, out+1), make([]int, out-1), append(make([]int, out-1), -most-1)} {
			l = append(l, fault{impl.AdBatch, "a T that does not fit", func(a *asked) {
				if at < len(a.B) {
					a.B[at].T = to
				}
			}})
		}
	}
	return l
}

func modelFaults(a asked) []fault {
	l := []fault{
		{impl.AdModel, "no operations", func(a *asked) { a.C.Model = impl.Model{} }},
		{impl.AdModel, "too many operations", func(a *asked) {
			_, out := wantModel(a.C.Model)
			for len(a.C.Model.Ops) <= impl.MaxOps {
				a.C.Model.Ops = append(a.C.Model.Ops, op(impl.OpRelu, out))
			}
		}},
	}
	for at := range a.C.Model.Ops {
		change := func(name string, f func(o *impl.Op)) {
			l = append(l, fault{impl.AdModel, name, func(a *asked) {
				if at < len(a.C.Model.Ops) {
					f(&a.C.Model.Ops[at])
				}
			}})
		}
		change("a kind that there is not", func(o *impl.Op) { o.Kind = 6 })
		change("a number more in P", func(o *impl.Op) { o.P = append(slices.Clip(o.P), 1) })
	}
	return l
}

func cutsFaults(a asked) []fault {
	var l []fault
	ops := len(a.C.Model.Ops)
	for _, cuts := range [][]int{{0}, {-1}, {ops}, {ops + 1}, {1, 1}, {2, 1}, {1, ops}, {0, 1, 2}, {1, 2, math.MinInt}, counting(1, impl.MaxStages+1), counting(ops-impl.MaxStages, ops)} {
		l = append(l, fault{impl.AdCuts, "other cuts", func(a *asked) { a.withStages(slices.Clone(cuts)) }})
	}
	for _, stages := range counting(impl.MaxStages+1, ops+2) {
		l = append(l, fault{impl.AdCuts, "more stages", func(a *asked) { a.withStages(counting(1, stages)) }})
	}
	for at := range a.C.Cuts {
		for _, place := range []int{0, -1, ops, ops + 1} {
			l = append(l, fault{impl.AdCuts, "one other cut", func(a *asked) { a.C.Cuts[at] = place }})
		}
	}
	return l
}

func planFaults() []fault {
	var l []fault
	for _, ds := range append(farNumbers, -2, -1, 0, 3, 4) {
		l = append(l, fault{impl.AdPlan, "another Ds", func(a *asked) { a.C.Ds = ds }})
	}
	return l
}

// queueFaults needs a cut for some of them.
func queueFaults(a asked) []fault {
	l := []fault{
		{impl.AdQueue, "one more in Caps", func(a *asked) { a.C.Caps = append(slices.Clip(a.C.Caps), 1) }},
		{impl.AdQueue, "many more in Caps", func(a *asked) { a.C.Caps = slices.Repeat([]int{1}, len(a.C.Cuts)+256) }},
	}
	for at := range a.C.Cuts {
		for _, room := range append(farNumbers, -5, -1, 0, impl.MaxMicro+1) {
			l = append(l, fault{impl.AdQueue, "another cap", func(a *asked) { a.C.Caps[min(at, len(a.C.Caps)-1)] = room }})
		}
		l = append(l, fault{impl.AdQueue, "fewer in Caps", func(a *asked) { a.C.Caps = a.C.Caps[:min(at, len(a.C.Cuts)-1)] }})
	}
	return l
}

func redoFaults(a asked) []fault {
	l := []fault{
		{impl.AdRedo, "one more in Redo", func(a *asked) { a.C.Redo = append(slices.Clip(a.C.Redo), true) }},
		{impl.AdRedo, "another one more in Redo", func(a *asked) { a.C.Redo = append(slices.Clip(a.C.Redo), false) }},
		{impl.AdRedo, "many more in Redo", func(a *asked) { a.C.Redo = make([]bool, a.stages()+256) }},
	}
	for fewer := range a.stages() {
		l = append(l, fault{impl.AdRedo, "fewer in Redo", func(a *asked) { a.C.Redo = a.C.Redo[:min(fewer, a.stages()-1)] }})
	}
	return l
}

func memoryFaults(a asked) []fault {
	l := []fault{
		{impl.AdMemory, "one more in Limits", func(a *asked) { a.C.Limits = append(slices.Clip(a.C.Limits), impl.MaxLimit) }},
		{impl.AdMemory, "many more in Limits", func(a *asked) { a.C.Limits = slices.Repeat([]int{impl.MaxLimit}, a.stages()+256) }},
	}
	for s := range a.stages() {
		l = append(l,
			fault{impl.AdMemory, "fewer in Limits", func(a *asked) { a.C.Limits = a.C.Limits[:min(s, a.stages()-1)] }},
			fault{impl.AdMemory, "a limit below PeakOf", func(a *asked) {
				at := min(s, a.stages()-1)
				a.C.Limits[at] = wantPeak(a.C, at, len(a.B)) - 1
			}},
			fault{impl.AdMemory, "a limit above MaxLimit", func(a *asked) { a.C.Limits[min(s, a.stages()-1)] = impl.MaxLimit + 1 }})
	}
	return l
}

// faultsOf has for each code from AdModel on what makes a thing not be let in for that reason.
func faultsOf(a asked) [][]fault {
	return [][]fault{nil, modelFaults(a), batchFaults(a), cutsFaults(a), planFaults(), redoFaults(a), queueFaults(a), memoryFaults(a)}
}

// checkFaulty wants the first of the reasons; the faults stand in their order.
func checkFaulty(t *testing.T, a asked, faults ...fault) {
	t.Helper()
	wrong := plainOf(a)
	for _, f := range faults {
		f.change(&wrong)
	}
	if got := impl.Admit(wrong.C, wrong.B); got != faults[0].code || wantAdmit(wrong) != got {
		var names []string
		for _, f := range faults {
			names = append(names, f.name)
		}
		t.Fatalf("with %q, Admit(%s) = %d, want %d", names, brief(wrong), got, faults[0].code)
	}
}

func TestAdmitOfEachReason(t *testing.T) {
	eachTight(func(a asked) {
		for _, l := range faultsOf(a) {
			for _, f := range l {
				checkFaulty(t, a, f)
			}
		}
	})
}

func TestAdmitTellsTheFirstOfTwoReasons(t *testing.T) {
	eachTight(func(a asked) {
		if len(a.B)%2 == 0 {
			return // as many as there are would take long, and are of the same kinds
		}
		faults := faultsOf(a)
		for first, l := range faults {
			for _, more := range faults[first+1:] {
				for i, f := range l {
					for at := i % 3; at < len(more); at += 3 {
						checkFaulty(t, a, f, more[at])
					}
				}
			}
		}
	})
}

func TestAdmitTellsTheFirstOfAnyReasons(t *testing.T) {
	n := 0
	eachTight(func(a asked) {
		faults := faultsOf(a)
		for set := uint(2); set < 1<<len(faults); set += 2 {
			var l []fault
			for code, of := range faults {
				if set>>code&1 == 1 {
					n++
					l = append(l, of[n%len(of)])
				}
			}
			checkFaulty(t, a, l...)
		}
	})
}

// anyAsked is mostly right, with some numbers that are not.
func anyAsked(r *rand.Rand) asked {
	ops := 1 + r.IntN(impl.MaxOps)
	stages := 1 + r.IntN(min(ops, impl.MaxStages))
	ways := wantAllCuts(ops, stages)
	redo := make([]bool, stages)
	for s := range redo {
		redo[s] = r.IntN(2) == 0
	}
	a := tightAsked(chainOf(ops, r.IntN(5), r.IntN(5), r.IntN(6)), ways[r.IntN(len(ways))], 1+r.IntN(2), redo, 1+r.IntN(impl.MaxMicro))
	for _, l := range [][]int{a.C.Cuts, a.C.Caps, a.C.Limits, {0}} {
		for i := range l {
			if r.IntN(8) == 0 {
				l[i] += r.IntN(5) - 2
			}
		}
	}
	for range r.IntN(3) {
		switch r.IntN(12) {
		case 0:
			a.C.Ds = r.IntN(5) - 1
		case 1:
			a.C.Redo = make([]bool, r.IntN(6))
		case 2:
			a.C.Caps = slices.Repeat([]int{r.IntN(7)}, r.IntN(5))
		case 3:
			a.C.Limits = slices.Repeat([]int{impl.MaxLimit + r.IntN(3) - 2}, r.IntN(6))
		case 4:
			a.C.Cuts = append(a.C.Cuts, r.IntN(9))
		case 5:
			a.B = append(a.B, a.B[r.IntN(len(a.B))])
		case 6:
			a.C.Model.Ops = append(a.C.Model.Ops, a.C.Model.Ops[r.IntN(len(a.C.Model.Ops))])
		}
	}
	return a
}

func TestAdmitOfAnything(t *testing.T) {
	r := rand.New(rand.NewPCG(12, 35))
	told := map[int]int{}
	for range 20000 {
		a := roomyOf(anyAsked(r))
		code := wantAdmit(a)
		told[code]++
		checkAdmit(t, a, code)
		checkWords(t, a.C)
		for s := range a.stages() {
			for micro := range impl.MaxMicro + 2 {
				checkPeak(t, a.C, s, micro, wantPeak(a.C, s, micro))
			}
		}
	}
	for code := impl.AdOk; code <= impl.AdMemory; code++ {
		if told[code] < 50 {
			t.Errorf("code %d came %d times: the test asks too little of it", code, told[code])
		}
	}
}

func TestAdmitOfLongLists(t *testing.T) {
	eachTight(func(a asked) {
		for code, change := range []func(a *asked){
			impl.AdModel:  func(a *asked) { a.C.Model.Ops = slices.Repeat(a.C.Model.Ops, 10000) },
			impl.AdBatch:  func(a *asked) { a.B = slices.Repeat(a.B, 10000) },
			impl.AdCuts:   func(a *asked) { a.C.Cuts = counting(1, 10000) },
			impl.AdRedo:   func(a *asked) { a.C.Redo = make([]bool, 10000) },
			impl.AdQueue:  func(a *asked) { a.C.Caps = slices.Repeat([]int{1}, 10000) },
			impl.AdMemory: func(a *asked) { a.C.Limits = slices.Repeat([]int{impl.MaxLimit}, 10000) },
		} {
			if change != nil {
				checkFaulty(t, a, fault{code, "a long list", change})
			}
		}
	})
}

func TestAdmitWord(t *testing.T) {
	for code, want := range []string{"ok", "model", "batch", "cuts", "plan", "redo", "queue", "memory"} {
		if got := impl.AdmitWord(code); got != want {
			t.Errorf("AdmitWord(%d) = %q, want %q", code, got, want)
		}
	}
	for _, code := range append(farNumbers, -3, -2, -1, 8, 9, 10) {
		if got := impl.AdmitWord(code); got != "" {
			t.Errorf("AdmitWord(%d) = %q, want an empty one", code, got)
		}
	}
}

// answersOf are all that this chapter answers of what is handed in.
func answersOf(a asked) []int {
	l := []int{impl.StagesOf(a.C), impl.Admit(a.C, a.B)}
	for s := -1; s <= a.stages() && s <= impl.MaxOps; s++ {
		l = append(l, impl.FullWords(a.C, s), impl.SavedWords(a.C, s))
		for micro := range impl.MaxMicro + 2 {
			l = append(l, impl.PeakOf(a.C, s, micro))
		}
	}
	return l
}

// checkAskedMemory wants the same answers whatever stands in the room behind the lists, and nothing written there or into them.
func checkAskedMemory(t *testing.T, of asked) {
	t.Helper()
	want := answersOf(of)
	a := roomyOf(of)
	was := wholeOf(a)
	got := answersOf(a)
	word := impl.AdmitWord(got[1])
	if !slices.Equal(got, want) {
		t.Fatalf("of %s with room behind its lists: %v, want %v", brief(of), got, want)
	}
	if !reflect.DeepEqual(wholeOf(a), was) {
		t.Fatalf("asked of %s: wrote into what was handed in: %s, was %s", brief(of), brief(wholeOf(a)), brief(was))
	}
	overwriteAll(reflect.ValueOf(a))
	if !slices.Equal(got, want) || word != impl.AdmitWord(want[1]) {
		t.Fatalf("asked of %s: an answer changed as it was written to", brief(of))
	}
	if !slices.Equal(answersOf(of), want) {
		t.Fatalf("asked of %s twice: the answers differ", brief(of))
	}
}

func TestWhatIsAskedOfConfigsWritesIntoNone(t *testing.T) {
	checkAskedMemory(t, asked{})
	eachTight(func(a asked) {
		checkAskedMemory(t, a)
		for _, l := range faultsOf(a) {
			for i := 0; i < len(l); i += 5 {
				wrong := plainOf(a)
				l[i].change(&wrong)
				checkAskedMemory(t, wrong)
			}
		}
	})
}

func TestConfigsWhoseListsAreOneMemory(t *testing.T) {
	// All lists of numbers are one: the cuts, the caps, what is shown and wanted.
	row := []int{1, 2, 3}
	o := op(impl.OpBias, 2, row[:2]...)
	p := impl.Pair{X: row[:2], T: row[1:]}
	a := asked{impl.Config{Model: model(o, o, o, o), Cuts: row, Ds: impl.DsOne, Redo: make([]bool, 4), Caps: row, Limits: []int{3*4 + 2, 3*4 + 2, 2*4 + 2, 4 + 2}}, []impl.Pair{p, p, p}}
	checkAdmit(t, a, impl.AdOk)
	if want := plainOf(a); !slices.Equal(answersOf(a), answersOf(want)) || !like(a, want) {
		t.Errorf("of %v: other answers than of %v", a, want)
	}
}
