package tests

import (
	"math"
	"slices"
	"strconv"
	"strings"
	"testing"

	"loop.example/g01407/impl"
)

var bothDs = []int{impl.DsAll, impl.DsOne}

// insWords are the words of the kinds from 1 on.
var insWords = []string{"recv", "fwd", "send", "recvg", "redo", "bwd", "sendg", "flush"}

// planOf reads a list like "recv0 fwd0 flush0".
func planOf(s string) []impl.Ins {
	var l []impl.Ins
	for _, word := range strings.Fields(s) {
		name := strings.TrimRight(word, "0123456789")
		m, err := strconv.Atoi(strings.TrimPrefix(word, name))
		kind := 1 + slices.Index(insWords, name)
		if err != nil || kind == 0 {
			panic(word)
		}
		l = append(l, impl.Ins{Kind: kind, M: m})
	}
	return l
}

// insOf is the list of instructions of these kinds and micro-batches, by turns.
func insOf(numbers ...int) []impl.Ins {
	var l []impl.Ins
	for at := 0; at < len(numbers); at += 2 {
		l = append(l, impl.Ins{Kind: numbers[at], M: numbers[at+1]})
	}
	return l
}

// post is what is asked of Plan.
type post struct {
	ds, stages, s, micro int
	redo                 bool
}

func (p post) plan() []impl.Ins { return impl.Plan(p.ds, p.stages, p.s, p.micro, p.redo) }

func (p post) ok(l []impl.Ins) bool { return impl.PlanOk(l, p.stages, p.s, p.micro, p.redo) }

func (p post) warm() int { return impl.WarmUp(p.ds, p.stages, p.s, p.micro) }

func (p post) right() bool {
	return p.stages >= 1 && p.stages <= impl.MaxStages && p.s >= 0 && p.s < p.stages && p.micro >= 1 && p.micro <= impl.MaxMicro
}

// eachPost calls f with everything that Plan takes.
func eachPost(f func(p post)) {
	for _, ds := range bothDs {
		for stages := 1; stages <= impl.MaxStages; stages++ {
			for s := range stages {
				for micro := 1; micro <= impl.MaxMicro; micro++ {
					f(post{ds, stages, s, micro, false})
					f(post{ds, stages, s, micro, true})
				}
			}
		}
	}
}

// postNumbers are in the range of some argument of Plan, by one out of it, far out of it, and such as wrap around into it.
var postNumbers = []int{-2, -1, 0, 1, 2, 3, 4, 5, 6, 7, 255, 256, 257, 1 << 32, 1<<32 + 1, 1<<32 + 2, -1<<32 + 1, math.MaxInt, math.MaxInt - 1, math.MinInt, math.MinInt + 1, math.MinInt + 2}

// eachWrongPost calls f with what Plan does not take, though its ds may be right.
func eachWrongPost(f func(p post)) {
	for _, stages := range postNumbers {
		for _, s := range postNumbers {
			for _, micro := range postNumbers {
				for _, ds := range bothDs {
					for _, redo := range []bool{false, true} {
						if p := (post{ds, stages, s, micro, redo}); !p.right() {
							f(p)
						}
					}
				}
			}
		}
	}
}

// wantSteps are the kinds that a micro-batch goes through at a stage, ahead and back.
func wantSteps(p post) (ahead, back []int) {
	ahead, back = []int{impl.InFwd}, []int{impl.InBwd}
	if p.redo {
		back = []int{impl.InRedo, impl.InBwd}
	}
	if p.s != 0 {
		ahead = append([]int{impl.InRecv}, ahead...)
		back = append(back, impl.InSendG)
	}
	if p.s != p.stages-1 {
		ahead = append(ahead, impl.InSend)
		back = append([]int{impl.InRecvG}, back...)
	}
	return ahead, back
}

func wantWarm(p post) int {
	if behind := p.stages - 1 - p.s; p.ds == impl.DsOne && behind < p.micro {
		return behind
	}
	return p.micro
}

// wantPlan goes through turns: in each, one more is done ahead, and back the one that was ahead WarmUp turns earlier.
func wantPlan(p post) []impl.Ins {
	ahead, back := wantSteps(p)
	warm := wantWarm(p)
	var l []impl.Ins
	for turn := range p.micro + warm {
		if turn < p.micro {
			for _, kind := range ahead {
				l = append(l, impl.Ins{Kind: kind, M: turn})
			}
		}
		if turn >= warm {
			for _, kind := range back {
				l = append(l, impl.Ins{Kind: kind, M: turn - warm})
			}
		}
	}
	return append(l, impl.Ins{Kind: impl.InFlush})
}

// wantPlanOk takes the list apart by micro-batch, then by kind.
func wantPlanOk(l []impl.Ins, p post) bool {
	if !p.right() || len(l) == 0 || l[len(l)-1] != (impl.Ins{Kind: impl.InFlush}) {
		return false
	}
	l = l[:len(l)-1]
	ahead, back := wantSteps(p)
	steps := slices.Concat(ahead, back)
	byMicro, byKind := map[int][]int{}, map[int][]int{}
	for _, i := range l {
		byMicro[i.M] = append(byMicro[i.M], i.Kind)
		byKind[i.Kind] = append(byKind[i.Kind], i.M)
	}
	for m := range p.micro {
		if !slices.Equal(byMicro[m], steps) {
			return false
		}
	}
	for _, l := range byKind {
		for at := range l {
			if at > 0 && l[at] <= l[at-1] {
				return false
			}
		}
	}
	return len(byMicro) == p.micro
}

func wantInFlight(l []impl.Ins) int {
	most := 0
	for end := range len(l) + 1 {
		fwd, bwd := 0, 0
		for _, i := range l[:end] {
			if i.Kind == impl.InFwd {
				fwd++
			}
			if i.Kind == impl.InBwd {
				bwd++
			}
		}
		if fwd-bwd > most {
			most = fwd - bwd
		}
	}
	return most
}

// checkPlan says where PlanOk of a list is not what its words say, and tells what it is.
func checkPlan(t *testing.T, p post, l []impl.Ins) bool {
	t.Helper()
	want := wantPlanOk(l, p)
	if got := p.ok(l); got != want {
		t.Fatalf("PlanOk(%v) of %+v is %v", l, p, got)
	}
	return want
}

// checkWrongPlan says where a list that no stage may have is let stand.
func checkWrongPlan(t *testing.T, p post, l []impl.Ins) {
	t.Helper()
	if checkPlan(t, p, l) {
		t.Fatalf("the test holds %v of %+v to be wrong", l, p)
	}
}

func TestPlanConstants(t *testing.T) {
	for at, got := range []int{impl.InRecv, impl.InFwd, impl.InSend, impl.InRecvG, impl.InRedo, impl.InBwd, impl.InSendG, impl.InFlush} {
		if got != at+1 {
			t.Errorf("the kind of %s is %d", insWords[at], got)
		}
	}
	if impl.MaxStages != 4 || impl.DsAll != 1 || impl.DsOne != 2 {
		t.Errorf("MaxStages is %d, DsAll %d, DsOne %d", impl.MaxStages, impl.DsAll, impl.DsOne)
	}
}

func TestPlan(t *testing.T) {
	for _, c := range []struct {
		p    post
		want string
	}{
		// One stage alone.
		{post{impl.DsAll, 1, 0, 1, false}, "fwd0 bwd0 flush0"}, {post{impl.DsOne, 1, 0, 1, false}, "fwd0 bwd0 flush0"}, {post{impl.DsAll, 1, 0, 1, true}, "fwd0 redo0 bwd0 flush0"},
		{post{impl.DsAll, 1, 0, 3, false}, "fwd0 fwd1 fwd2 bwd0 bwd1 bwd2 flush0"}, {post{impl.DsOne, 1, 0, 3, false}, "fwd0 bwd0 fwd1 bwd1 fwd2 bwd2 flush0"}, {post{impl.DsOne, 1, 0, 2, true}, "fwd0 redo0 bwd0 fwd1 redo1 bwd1 flush0"},
		// The first stage.
		{post{impl.DsAll, 2, 0, 2, false}, "fwd0 send0 fwd1 send1 recvg0 bwd0 recvg1 bwd1 flush0"}, {post{impl.DsOne, 2, 0, 2, false}, "fwd0 send0 fwd1 send1 recvg0 bwd0 recvg1 bwd1 flush0"}, {post{impl.DsOne, 3, 0, 3, true}, "fwd0 send0 fwd1 send1 fwd2 send2 recvg0 redo0 bwd0 recvg1 redo1 bwd1 recvg2 redo2 bwd2 flush0"},
		{post{impl.DsOne, 3, 0, 4, false}, "fwd0 send0 fwd1 send1 fwd2 send2 recvg0 bwd0 fwd3 send3 recvg1 bwd1 recvg2 bwd2 recvg3 bwd3 flush0"},
		{post{impl.DsOne, 2, 0, 5, false}, "fwd0 send0 fwd1 send1 recvg0 bwd0 fwd2 send2 recvg1 bwd1 fwd3 send3 recvg2 bwd2 fwd4 send4 recvg3 bwd3 recvg4 bwd4 flush0"},
		// A middle stage.
		{post{impl.DsAll, 3, 1, 2, false}, "recv0 fwd0 send0 recv1 fwd1 send1 recvg0 bwd0 sendg0 recvg1 bwd1 sendg1 flush0"}, {post{impl.DsAll, 3, 1, 2, true}, "recv0 fwd0 send0 recv1 fwd1 send1 recvg0 redo0 bwd0 sendg0 recvg1 redo1 bwd1 sendg1 flush0"},
		{post{impl.DsOne, 3, 1, 3, false}, "recv0 fwd0 send0 recv1 fwd1 send1 recvg0 bwd0 sendg0 recv2 fwd2 send2 recvg1 bwd1 sendg1 recvg2 bwd2 sendg2 flush0"}, {post{impl.DsOne, 4, 2, 2, true}, "recv0 fwd0 send0 recv1 fwd1 send1 recvg0 redo0 bwd0 sendg0 recvg1 redo1 bwd1 sendg1 flush0"},
		{post{impl.DsOne, 4, 1, 4, false}, "recv0 fwd0 send0 recv1 fwd1 send1 recv2 fwd2 send2 recvg0 bwd0 sendg0 recv3 fwd3 send3 recvg1 bwd1 sendg1 recvg2 bwd2 sendg2 recvg3 bwd3 sendg3 flush0"},
		// The last stage: with DsOne back of each as soon as it is ahead.
		{post{impl.DsAll, 2, 1, 2, false}, "recv0 fwd0 recv1 fwd1 bwd0 sendg0 bwd1 sendg1 flush0"}, {post{impl.DsOne, 2, 1, 2, false}, "recv0 fwd0 bwd0 sendg0 recv1 fwd1 bwd1 sendg1 flush0"}, {post{impl.DsOne, 4, 3, 2, true}, "recv0 fwd0 redo0 bwd0 sendg0 recv1 fwd1 redo1 bwd1 sendg1 flush0"}, {post{impl.DsAll, 4, 3, 2, true}, "recv0 fwd0 recv1 fwd1 redo0 bwd0 sendg0 redo1 bwd1 sendg1 flush0"},
		// Fewer micro-batches than stages.
		{post{impl.DsOne, 4, 0, 1, false}, "fwd0 send0 recvg0 bwd0 flush0"}, {post{impl.DsAll, 4, 0, 1, false}, "fwd0 send0 recvg0 bwd0 flush0"}, {post{impl.DsOne, 4, 1, 1, true}, "recv0 fwd0 send0 recvg0 redo0 bwd0 sendg0 flush0"}, {post{impl.DsOne, 4, 3, 1, false}, "recv0 fwd0 bwd0 sendg0 flush0"}, {post{impl.DsOne, 4, 0, 2, false}, "fwd0 send0 fwd1 send1 recvg0 bwd0 recvg1 bwd1 flush0"},
		{post{impl.DsOne, 4, 0, 3, false}, "fwd0 send0 fwd1 send1 fwd2 send2 recvg0 bwd0 recvg1 bwd1 recvg2 bwd2 flush0"}, {post{impl.DsOne, 4, 0, 4, false}, "fwd0 send0 fwd1 send1 fwd2 send2 fwd3 send3 recvg0 bwd0 recvg1 bwd1 recvg2 bwd2 recvg3 bwd3 flush0"},
	} {
		want := planOf(c.want)
		if got := c.p.plan(); !slices.Equal(got, want) {
			t.Errorf("Plan of %+v = %v, want %v", c.p, got, want)
		}
		if !slices.Equal(wantPlan(c.p), want) || !wantPlanOk(want, c.p) || !c.p.ok(want) {
			t.Errorf("PlanOk(%s) of %+v is %v; the test wants %v of it and %v of Plan", c.want, c.p, c.p.ok(want), wantPlanOk(want, c.p), wantPlan(c.p))
		}
	}
}

func TestPlanInstructionByInstruction(t *testing.T) {
	eachPost(func(p post) {
		if got, want := p.plan(), wantPlan(p); !slices.Equal(got, want) {
			t.Fatalf("Plan of %+v = %v, want %v", p, got, want)
		}
	})
}

func TestAPlanIsPlanOk(t *testing.T) {
	eachPost(func(p post) {
		if l := p.plan(); !p.ok(l) || !wantPlanOk(l, p) {
			t.Fatalf("PlanOk of the Plan %v of %+v is %v", l, p, p.ok(l))
		}
	})
}

func TestWhatIsUnderWayOfAPlan(t *testing.T) {
	few, full := 0, 0
	eachPost(func(p post) {
		got, want := impl.InFlight(p.plan()), p.micro
		if behind := p.stages - 1 - p.s; p.ds == impl.DsOne && p.micro > behind {
			want = behind + 1
			full++
		} else if p.ds == impl.DsOne {
			few++
		}
		if got != want {
			t.Fatalf("InFlight of the Plan of %+v is %d, want %d", p, got, want)
		}
	})
	if few == 0 || full == 0 {
		t.Errorf("of DsOne %d had fewer micro-batches than stages behind, %d had not", few, full)
	}
}

func TestPlanOfWhatIsNotRight(t *testing.T) {
	eachWrongPost(func(p post) {
		if got := p.plan(); len(got) != 0 {
			t.Fatalf("Plan of %+v = %v, want nothing", p, got)
		}
	})
	eachPost(func(p post) {
		for _, ds := range append([]int{0, 3, 4, -1, -2}, postNumbers...) {
			p.ds = ds
			if got := p.plan(); ds != impl.DsAll && ds != impl.DsOne && len(got) != 0 {
				t.Fatalf("Plan of %+v = %v, want nothing", p, got)
			}
		}
		for _, stages := range []int{0, -1, p.s, impl.MaxStages + 1} {
			if got := impl.Plan(impl.DsAll, stages, p.s, p.micro, p.redo); len(got) != 0 {
				t.Fatalf("Plan of %+v with %d stages = %v, want nothing", p, stages, got)
			}
		}
		for _, s := range []int{-1, p.stages, p.stages + 1} {
			if got := impl.Plan(impl.DsOne, p.stages, s, p.micro, p.redo); len(got) != 0 {
				t.Fatalf("Plan of %+v with stage %d = %v, want nothing", p, s, got)
			}
		}
		for _, micro := range []int{0, -1, -p.micro, impl.MaxMicro + 1} {
			if got := impl.Plan(impl.DsOne, p.stages, p.s, micro, p.redo); len(got) != 0 {
				t.Fatalf("Plan of %+v with %d micro-batches = %v, want nothing", p, micro, got)
			}
		}
	})
}

func TestWarmUp(t *testing.T) {
	for _, c := range []struct {
		p    post
		want int
	}{
		{post{ds: impl.DsAll, stages: 1, s: 0, micro: 1}, 1}, {post{ds: impl.DsAll, stages: 1, s: 0, micro: 5}, 5}, {post{ds: impl.DsAll, stages: 4, s: 0, micro: 2}, 2}, {post{ds: impl.DsAll, stages: 4, s: 3, micro: 5}, 5},
		{post{ds: impl.DsOne, stages: 1, s: 0, micro: 1}, 0}, {post{ds: impl.DsOne, stages: 1, s: 0, micro: 5}, 0}, {post{ds: impl.DsOne, stages: 4, s: 3, micro: 5}, 0}, {post{ds: impl.DsOne, stages: 4, s: 2, micro: 5}, 1}, {post{ds: impl.DsOne, stages: 4, s: 1, micro: 5}, 2}, {post{ds: impl.DsOne, stages: 4, s: 0, micro: 5}, 3},
		{post{ds: impl.DsOne, stages: 4, s: 0, micro: 3}, 3}, {post{ds: impl.DsOne, stages: 4, s: 0, micro: 2}, 2}, {post{ds: impl.DsOne, stages: 4, s: 0, micro: 1}, 1}, {post{ds: impl.DsOne, stages: 2, s: 0, micro: 1}, 1}, {post{ds: impl.DsOne, stages: 2, s: 0, micro: 4}, 1}, {post{ds: impl.DsOne, stages: 2, s: 1, micro: 1}, 0},
		// The chapter names DsOne alone: with any other ds it is all micro-batches.
		{post{ds: 0, stages: 4, s: 3, micro: 5}, 5}, {post{ds: 3, stages: 4, s: 2, micro: 3}, 3}, {post{ds: -1, stages: 2, s: 1, micro: 4}, 4}, {post{ds: -2, stages: 1, s: 0, micro: 2}, 2}, {post{ds: math.MinInt, stages: 3, s: 1, micro: 5}, 5}, {post{ds: 1<<32 + 2, stages: 3, s: 2, micro: 1}, 1},
	} {
		if got := c.p.warm(); got != c.want {
			t.Errorf("WarmUp of %+v = %d, want %d", c.p, got, c.want)
		}
	}
	eachPost(func(p post) {
		for _, ds := range postNumbers {
			p.ds = ds
			if got, want := p.warm(), wantWarm(p); got != want {
				t.Fatalf("WarmUp of %+v = %d, want %d", p, got, want)
			}
		}
	})
}

func TestWarmUpOfWhatIsNotRight(t *testing.T) {
	eachWrongPost(func(p post) {
		for _, ds := range []int{p.ds, 0, 3, -1} {
			p.ds = ds
			if got := p.warm(); got != 0 {
				t.Fatalf("WarmUp of %+v = %d, want 0", p, got)
			}
		}
	})
}

func TestInFlight(t *testing.T) {
	for _, c := range []struct {
		l    []impl.Ins
		want int
	}{
		{nil, 0}, {[]impl.Ins{}, 0}, {planOf("fwd0"), 1}, {planOf("bwd0"), 0}, {planOf("flush0"), 0}, {planOf("recv0 send0 recvg0 redo0 sendg0 flush0"), 0},
		{planOf("fwd0 bwd0"), 1}, {planOf("fwd0 fwd1 bwd0 bwd1"), 2}, {planOf("fwd0 bwd0 fwd1 bwd1"), 1}, {planOf("fwd0 fwd1 fwd2"), 3},
		// The most may be at the beginning, inside, and at the end.
		{planOf("fwd0 fwd1 fwd2 bwd0 bwd1 fwd3 bwd2 bwd3"), 3}, {planOf("fwd0 bwd0 fwd1 fwd2 bwd1 bwd2 fwd3"), 2}, {planOf("fwd0 bwd0 fwd1 bwd1 fwd2 fwd3 fwd4"), 3},
		// More InBwd than InFwd: at the beginning, at the end, all the way.
		{planOf("bwd0 fwd0"), 0}, {planOf("bwd0 fwd0 fwd1"), 1}, {planOf("bwd0 bwd1 fwd0 fwd1 fwd2"), 1}, {planOf("bwd0 bwd1 bwd2 fwd0 fwd1 bwd3 fwd2"), 0}, {planOf("fwd0 bwd0 bwd1 bwd2 fwd1"), 1}, {planOf("fwd0 fwd1 bwd0 bwd1 bwd2 bwd3 fwd2 fwd3 fwd4"), 2}, {planOf("bwd0 bwd1 bwd2"), 0},
		// Whatever the micro-batches are, and whatever other kinds there are.
		{planOf("fwd0 fwd0 fwd0 bwd1"), 3}, {planOf("fwd1 bwd0 fwd1 bwd0"), 1}, {insOf(impl.InFwd, -1, impl.InFwd, math.MaxInt, impl.InBwd, math.MinInt, impl.InFwd, 7), 2},
		{insOf(0, 0, -1, 0, 9, 0, math.MaxInt, 0, math.MinInt, 0, 1<<32+impl.InFwd, 0, -impl.InFwd, 0), 0}, {insOf(impl.InFwd, 0, 0, 0, 9, 1, impl.InFwd, 1, -6, 0, 1<<32+impl.InBwd, 0, impl.InFwd, 2), 3},
		{slices.Repeat(planOf("fwd0"), 1000), 1000}, {slices.Repeat(planOf("fwd0 bwd0"), 1000), 1}, {slices.Repeat(planOf("bwd0 fwd0"), 1000), 0}, {slices.Repeat(planOf("fwd0 fwd1 bwd0"), 300), 301},
		// What stands behind its end is no part of a list.
		{planOf("fwd0 fwd1 fwd2")[:1], 1}, {planOf("fwd0")[:0], 0},
	} {
		if want := wantInFlight(c.l); want != c.want {
			t.Errorf("the test wants %d of InFlight(%s), which is %d", c.want, brief(c.l), want)
		}
		if got := impl.InFlight(c.l); got != c.want {
			t.Errorf("InFlight(%s) = %d, want %d", brief(c.l), got, c.want)
		}
	}
}

// eachList calls f with every list of at most so many of the instructions.
func eachList(from []impl.Ins, most int, f func(l []impl.Ins)) {
	var grow func(l []impl.Ins)
	grow = func(l []impl.Ins) {
		f(l)
		if len(l) == most {
			return
		}
		for _, i := range from {
			grow(append(slices.Clip(l), i))
		}
	}
	grow(nil)
}

func TestInFlightOfEachShortList(t *testing.T) {
	eachList(planOf("fwd0 bwd0 fwd1 bwd2 redo0"), 7, func(l []impl.Ins) {
		if got, want := impl.InFlight(l), wantInFlight(l); got != want {
			t.Fatalf("InFlight(%v) = %d, want %d", l, got, want)
		}
	})
}

func TestPlanOk(t *testing.T) {
	for _, c := range []struct {
		s    string
		p    post
		want bool
	}{
		{"fwd0 bwd0 flush0", post{stages: 1, micro: 1}, true}, {"fwd0 redo0 bwd0 flush0", post{stages: 1, micro: 1, redo: true}, true}, {"fwd0 bwd0 flush0", post{stages: 1, micro: 1, redo: true}, false}, {"fwd0 redo0 bwd0 flush0", post{stages: 1, micro: 1}, false},
		{"", post{stages: 1, micro: 1}, false}, {"flush0", post{stages: 1, micro: 1}, false}, {"fwd0 bwd0", post{stages: 1, micro: 1}, false}, {"fwd0 flush0", post{stages: 1, micro: 1}, false}, {"bwd0 flush0", post{stages: 1, micro: 1}, false}, {"bwd0 fwd0 flush0", post{stages: 1, micro: 1}, false},
		{"flush0 fwd0 bwd0", post{stages: 1, micro: 1}, false}, {"fwd0 flush0 bwd0", post{stages: 1, micro: 1}, false}, {"fwd0 bwd0 flush1", post{stages: 1, micro: 1}, false}, {"fwd0 bwd0 flush0 flush0", post{stages: 1, micro: 1}, false}, {"flush0 fwd0 bwd0 flush0", post{stages: 1, micro: 1}, false}, {"fwd0 bwd0 flush0 fwd0", post{stages: 1, micro: 1}, false},
		{"fwd0 bwd0 fwd1 bwd1 flush0", post{stages: 1, micro: 2}, true}, {"fwd0 fwd1 bwd0 bwd1 flush0", post{stages: 1, micro: 2}, true}, {"fwd0 fwd1 bwd1 bwd0 flush0", post{stages: 1, micro: 2}, false}, {"fwd1 fwd0 bwd0 bwd1 flush0", post{stages: 1, micro: 2}, false}, {"fwd1 bwd1 fwd0 bwd0 flush0", post{stages: 1, micro: 2}, false}, {"fwd0 bwd1 fwd1 bwd0 flush0", post{stages: 1, micro: 2}, false}, {"fwd0 fwd0 bwd0 bwd0 flush0", post{stages: 1, micro: 2}, false}, {"fwd1 fwd2 bwd1 bwd2 flush0", post{stages: 1, micro: 2}, false},
		{"fwd0 bwd0 flush0", post{stages: 1, micro: 2}, false}, {"fwd1 bwd1 flush0", post{stages: 1, micro: 2}, false}, {"fwd0 bwd0 fwd1 flush0", post{stages: 1, micro: 2}, false}, {"fwd0 bwd0 fwd1 bwd1 flush0", post{stages: 1, micro: 1}, false}, {"fwd0 fwd1 bwd0 flush0", post{stages: 1, micro: 1}, false},
		// Orders that no Plan makes: neither all ahead first, nor as many ahead as stages stand behind.
		{"fwd0 bwd0 fwd1 fwd2 bwd1 bwd2 flush0", post{stages: 1, micro: 3}, true}, {"fwd0 fwd1 bwd0 bwd1 fwd2 bwd2 flush0", post{stages: 1, micro: 3}, true}, {"fwd0 fwd1 bwd0 fwd2 bwd1 bwd2 flush0", post{stages: 1, micro: 3}, true}, {"fwd0 send0 recvg0 bwd0 fwd1 send1 recvg1 bwd1 flush0", post{stages: 3, micro: 2}, true},
		{"fwd0 fwd1 send0 send1 recvg0 recvg1 bwd0 bwd1 flush0", post{stages: 2, micro: 2}, true}, {"fwd0 fwd1 send0 recvg0 bwd0 send1 recvg1 bwd1 flush0", post{stages: 2, micro: 2}, true}, {"fwd0 fwd1 send1 send0 recvg0 recvg1 bwd0 bwd1 flush0", post{stages: 2, micro: 2}, false}, {"fwd0 send0 recvg0 fwd1 send1 bwd0 recvg1 bwd1 flush0", post{stages: 2, micro: 2}, true}, {"fwd0 recvg0 send0 bwd0 flush0", post{stages: 2, micro: 1}, false},
		{"recv0 recv1 fwd0 fwd1 send0 send1 recvg0 recvg1 redo0 redo1 bwd0 bwd1 sendg0 sendg1 flush0", post{stages: 3, s: 1, micro: 2, redo: true}, true}, {"recv0 fwd0 send0 recvg0 recv1 redo0 fwd1 bwd0 send1 sendg0 recvg1 redo1 bwd1 sendg1 flush0", post{stages: 4, s: 2, micro: 2, redo: true}, true},
		{"recv0 fwd0 redo0 bwd0 recv1 sendg0 fwd1 redo1 bwd1 sendg1 flush0", post{stages: 4, s: 3, micro: 2, redo: true}, true}, {"recv0 recv1 fwd0 redo0 bwd0 fwd1 redo1 bwd1 sendg0 sendg1 flush0", post{stages: 2, s: 1, micro: 2, redo: true}, true}, {"recv0 redo0 fwd0 bwd0 sendg0 flush0", post{stages: 2, s: 1, micro: 1, redo: true}, false},
		// The first stage has none ahead of it, the last none behind.
		{"recv0 fwd0 send0 recvg0 bwd0 sendg0 flush0", post{stages: 3, s: 1, micro: 1}, true}, {"recv0 fwd0 send0 recvg0 bwd0 sendg0 flush0", post{stages: 3, s: 0, micro: 1}, false}, {"recv0 fwd0 send0 recvg0 bwd0 sendg0 flush0", post{stages: 3, s: 2, micro: 1}, false}, {"fwd0 send0 recvg0 bwd0 flush0", post{stages: 3, s: 0, micro: 1}, true}, {"fwd0 send0 recvg0 bwd0 flush0", post{stages: 1, s: 0, micro: 1}, false}, {"fwd0 send0 recvg0 bwd0 flush0", post{stages: 2, s: 1, micro: 1}, false}, {"recv0 fwd0 bwd0 sendg0 flush0", post{stages: 2, s: 1, micro: 1}, true}, {"recv0 fwd0 bwd0 sendg0 flush0", post{stages: 2, s: 0, micro: 1}, false}, {"fwd0 bwd0 flush0", post{stages: 2, s: 1, micro: 1}, false}, {"fwd0 bwd0 flush0", post{stages: 2, s: 0, micro: 1}, false},
	} {
		l := planOf(c.s)
		if got := checkPlan(t, c.p, l); got != c.want {
			t.Errorf("PlanOk(%s) of %+v is %v", c.s, c.p, got)
		}
	}
}

func TestPlanOkOfTheEmptyList(t *testing.T) {
	check := func(p post) {
		if p.ok(nil) || p.ok([]impl.Ins{}) || p.ok(p.plan()[:0]) {
			t.Fatalf("PlanOk of the empty list and %+v is true", p)
		}
	}
	eachPost(check)
	eachWrongPost(check)
}

func TestPlanOkWhereNoStageHasAPlan(t *testing.T) {
	plans := [][]impl.Ins{nil, planOf("flush0"), planOf("fwd0 bwd0 flush0")}
	eachPost(func(p post) { plans = append(plans, p.plan()) })
	near := func(n int) bool { return n >= -2 && n <= impl.MaxMicro+2 }
	eachWrongPost(func(p post) {
		for _, l := range plans[:12] {
			checkWrongPlan(t, p, l)
		}
		// Such as would be right if the range were wider.
		if near(p.stages) && near(p.s) && near(p.micro) {
			for _, l := range append(plans, wantPlan(p)) {
				checkWrongPlan(t, p, l)
			}
		}
	})
}

func TestPlanOkOfThePlansOfOthers(t *testing.T) {
	right, wrong := 0, 0
	eachPost(func(of post) {
		l := of.plan()
		eachPost(func(p post) {
			if checkPlan(t, p, l) {
				right++
			} else {
				wrong++
			}
		})
	})
	if right == 0 || wrong == 0 {
		t.Errorf("%d were right, %d were not", right, wrong)
	}
}

func TestPlanOkWhereTwoChangePlaces(t *testing.T) {
	right, wrong := 0, 0
	eachPost(func(p post) {
		l := p.plan()
		for j := range l {
			for i := range j {
				l[i], l[j] = l[j], l[i]
				if checkPlan(t, p, l) {
					right++
				} else {
					wrong++
				}
				if l[i].Kind == l[j].Kind || l[i].M == l[j].M || l[i].Kind == impl.InFlush {
					checkWrongPlan(t, p, l)
				}
				l[i], l[j] = l[j], l[i]
			}
		}
	})
	if right == 0 || wrong == 0 {
		t.Errorf("%d were right, %d were not", right, wrong)
	}
}

func TestPlanOkWhereOneIsLeftOutOrOneMore(t *testing.T) {
	eachPost(func(p post) {
		l := p.plan()
		for at, i := range l {
			checkWrongPlan(t, p, slices.Delete(slices.Clone(l), at, at+1))
			for to := range len(l) + 1 {
				checkWrongPlan(t, p, slices.Insert(slices.Clone(l), to, i))
			}
		}
		for kind := -1; kind <= impl.InFlush+1; kind++ {
			for _, m := range []int{-1, 0, p.micro - 1, p.micro, p.micro + 1, math.MaxInt, math.MinInt} {
				i := impl.Ins{Kind: kind, M: m}
				checkWrongPlan(t, p, append(slices.Clone(l), i))
				checkWrongPlan(t, p, append([]impl.Ins{i}, l...))
				checkWrongPlan(t, p, slices.Insert(slices.Clone(l), len(l)-1, i))
				checkWrongPlan(t, p, slices.Insert(slices.Clone(l), len(l)/2, i))
			}
		}
		for count := range l {
			checkWrongPlan(t, p, l[:count])
			if count > 0 {
				checkWrongPlan(t, p, l[count:])
			}
		}
		checkWrongPlan(t, p, append(slices.Clone(l), l...))
		checkWrongPlan(t, p, append(slices.Clone(l[:len(l)-1]), l...))
	})
}

func TestPlanOkWhereOneIsAnother(t *testing.T) {
	eachPost(func(p post) {
		l := p.plan()
		for at, i := range l {
			for _, m := range []int{-1, -2, 0, 1, 2, 3, 4, 5, 6, p.micro, i.M + 1, i.M - 1, -i.M, i.M + 1<<32, i.M + 256, math.MaxInt, math.MinInt} {
				if m != i.M {
					l[at].M = m
					checkWrongPlan(t, p, l)
				}
			}
			l[at] = i
			for _, kind := range []int{-1, 0, 1, 2, 3, 4, 5, 6, 7, 8, 9, 10, -i.Kind, i.Kind + 1<<32, i.Kind + 256, i.Kind + 8, math.MaxInt, math.MinInt} {
				if kind != i.Kind {
					l[at].Kind = kind
					checkWrongPlan(t, p, l)
				}
			}
			l[at] = i
		}
		if !p.ok(l) {
			t.Fatalf("PlanOk(%v) of %+v is false", l, p)
		}
	})
}

func TestPlanOkWhereFlushIsNotAloneAtTheEnd(t *testing.T) {
	flush := impl.Ins{Kind: impl.InFlush}
	eachPost(func(p post) {
		l := p.plan()
		rest := l[:len(l)-1]
		checkWrongPlan(t, p, rest)
		for at := range l {
			checkWrongPlan(t, p, slices.Insert(slices.Clone(l), at, flush))
			if at < len(rest) {
				checkWrongPlan(t, p, slices.Insert(slices.Clone(rest), at, flush))
			}
		}
		for _, m := range []int{-1, 1, 2, p.micro - 1, p.micro, impl.MaxMicro, 1 << 32, math.MaxInt, math.MinInt} {
			if m != 0 {
				checkWrongPlan(t, p, append(slices.Clone(rest), impl.Ins{Kind: impl.InFlush, M: m}))
				checkWrongPlan(t, p, append(slices.Clone(rest), impl.Ins{Kind: impl.InFlush, M: m}, flush))
				checkWrongPlan(t, p, append(slices.Clone(rest), flush, impl.Ins{Kind: impl.InFlush, M: m}))
			}
		}
		for _, count := range []int{2, 3, p.micro + 1, 100} {
			checkWrongPlan(t, p, append(slices.Clone(rest), slices.Repeat([]impl.Ins{flush}, count)...))
			checkWrongPlan(t, p, slices.Repeat([]impl.Ins{flush}, count))
		}
	})
}

// eachOrder calls f with all orders in which each micro-batch goes through the kinds, and each kind takes them as they rise.
func eachOrder(p post, f func(l []impl.Ins)) {
	ahead, back := wantSteps(p)
	steps := slices.Concat(ahead, back)
	at := make([]int, p.micro)
	var grow func(l []impl.Ins)
	grow = func(l []impl.Ins) {
		if len(l) == p.micro*len(steps) {
			f(append(slices.Clip(l), impl.Ins{Kind: impl.InFlush}))
			return
		}
		for m := range at {
			if at[m] < len(steps) && (m == 0 || at[m] < at[m-1]) {
				at[m]++
				grow(append(slices.Clip(l), impl.Ins{Kind: steps[at[m]-1], M: m}))
				at[m]--
			}
		}
	}
	grow(nil)
}

func TestPlanOkOfOrdersThatNoPlanMakes(t *testing.T) {
	for _, c := range []struct {
		p      post
		orders int
	}{
		// As many as there are tables of these sides whose numbers rise along each row and column.
		{post{stages: 1, micro: 1}, 1}, {post{stages: 1, micro: 2}, 2}, {post{stages: 1, micro: 3}, 5}, {post{stages: 1, micro: 4}, 14}, {post{stages: 1, micro: 5}, 42}, {post{stages: 1, micro: 2, redo: true}, 5}, {post{stages: 1, micro: 3, redo: true}, 42}, {post{stages: 1, micro: 4, redo: true}, 462}, {post{stages: 1, micro: 5, redo: true}, 6006},
		{post{stages: 2, s: 0, micro: 2}, 14}, {post{stages: 2, s: 0, micro: 3}, 462}, {post{stages: 2, s: 1, micro: 2}, 14}, {post{stages: 4, s: 3, micro: 3}, 462}, {post{stages: 4, s: 0, micro: 4}, 24024}, {post{stages: 4, s: 3, micro: 2, redo: true}, 42}, {post{stages: 3, s: 0, micro: 3, redo: true}, 6006},
		{post{stages: 3, s: 1, micro: 1}, 1}, {post{stages: 3, s: 1, micro: 2}, 132}, {post{stages: 4, s: 2, micro: 2, redo: true}, 429}, {post{stages: 4, s: 1, micro: 1, redo: true}, 1}, {post{stages: 4, s: 1, micro: 3}, 87516},
	} {
		orders, made := 0, 0
		eachOrder(c.p, func(l []impl.Ins) {
			orders++
			if !checkPlan(t, c.p, l) {
				t.Fatalf("PlanOk(%v) of %+v is false", l, c.p)
			}
			for _, ds := range bothDs {
				if slices.Equal(l, impl.Plan(ds, c.p.stages, c.p.s, c.p.micro, c.p.redo)) {
					made++
				}
			}
		})
		// Both plans are among these.
		if orders != c.orders || made != len(bothDs) {
			t.Errorf("%+v has %d orders, want %d; Plan made %d of them", c.p, orders, c.orders, made)
		}
	}
}

func TestPlanOkOfEachOrderOfFew(t *testing.T) {
	for _, p := range []post{{stages: 1, micro: 1}, {stages: 1, micro: 2}, {stages: 1, micro: 3}, {stages: 1, micro: 2, redo: true}, {stages: 2, s: 0, micro: 1, redo: true}, {stages: 2, s: 0, micro: 2}, {stages: 2, s: 1, micro: 2}, {stages: 3, s: 1, micro: 1}, {stages: 4, s: 1, micro: 1, redo: true}} {
		l := wantPlan(p)
		right := 0
		var turn func(at int)
		turn = func(at int) {
			if at == len(l) {
				if checkPlan(t, p, l) {
					right++
				}
				return
			}
			for i := at; i < len(l); i++ {
				l[at], l[i] = l[i], l[at]
				turn(at + 1)
				l[at], l[i] = l[i], l[at]
			}
		}
		turn(0)
		want := 0
		eachOrder(p, func([]impl.Ins) { want++ })
		if right != want {
			t.Errorf("of the orders of the plan of %+v %d are right, want %d", p, right, want)
		}
	}
}

func TestPlanOkFarFromAnyPlan(t *testing.T) {
	// A plan wanders off by neighbours that change places wherever the words let it stand.
	eachPost(func(p post) {
		l := p.plan()
		moved, step := 0, uint32(1)
		for range 50 * len(l) {
			step = step*1664525 + 1013904223
			at := 1 + int(step>>16)%(len(l)-1)
			l[at], l[at-1] = l[at-1], l[at]
			if checkPlan(t, p, l) {
				moved++
			} else {
				l[at], l[at-1] = l[at-1], l[at]
			}
		}
		if p.micro > 1 && moved == 0 {
			t.Errorf("the plan of %+v stays as it is", p)
		}
	})
}

func TestPlanOkOfEachShortList(t *testing.T) {
	from := append(planOf("recv0 fwd0 send0 recvg0 redo0 bwd0 sendg0 flush0 fwd1 bwd1 flush1"), impl.Ins{}, impl.Ins{Kind: 9}, impl.Ins{Kind: impl.InFwd, M: -1})
	posts := []post{{stages: 1, micro: 1}, {stages: 1, micro: 1, redo: true}, {stages: 2, s: 0, micro: 1}, {stages: 2, s: 1, micro: 1}, {stages: 1, micro: 2}}
	right := make([]int, len(posts))
	eachList(from, 5, func(l []impl.Ins) {
		for at, p := range posts {
			if p.ok(l) {
				checkPlan(t, p, l)
				right[at]++
			}
		}
	})
	if want := []int{1, 1, 1, 1, 2}; !slices.Equal(right, want) {
		t.Errorf("%v lists are right, want %v", right, want)
	}
}

func TestPlanOkOfLongLists(t *testing.T) {
	eachPost(func(p post) {
		l := p.plan()
		for _, long := range [][]impl.Ins{slices.Repeat(l, 50), slices.Repeat(l[:1], 1000), append(slices.Repeat(l[:1], 1000), l...), append(slices.Clone(l), slices.Repeat(planOf("flush0"), 1000)...), make([]impl.Ins, 1000)} {
			checkWrongPlan(t, p, long)
		}
	})
}

func TestInsWord(t *testing.T) {
	for at, want := range insWords {
		if got := impl.InsWord(at + 1); got != want {
			t.Errorf("InsWord(%d) = %q, want %q", at+1, got, want)
		}
	}
	for _, kind := range []int{0, -1, -2, -8, impl.InFlush + 1, impl.InFlush + 2, 16, 255, 256, 257, 1 << 32, 1<<32 + 1, -1<<32 + 1, math.MaxInt, math.MinInt, math.MinInt + 1, math.MinInt + 8} {
		if got := impl.InsWord(kind); got != "" {
			t.Errorf("InsWord(%d) = %q, want none", kind, got)
		}
	}
}

func TestShowPlan(t *testing.T) {
	for _, c := range []struct {
		l    []impl.Ins
		want string
	}{
		{nil, ""}, {[]impl.Ins{}, ""}, {planOf("fwd0")[:0], ""}, {planOf("recv0"), "recv0"}, {planOf("fwd4"), "fwd4"}, {planOf("flush0"), "flush0"}, {planOf("fwd0 bwd0"), "fwd0 bwd0"}, {planOf("fwd0 bwd0 flush0")[:2], "fwd0 bwd0"}, {planOf("sendg1 recv1 send1 redo1 recvg1"), "sendg1 recv1 send1 redo1 recvg1"},
		{planOf("recv0 fwd1 send2 recvg3 redo4 bwd5 sendg6 flush7"), "recv0 fwd1 send2 recvg3 redo4 bwd5 sendg6 flush7"}, {planOf("fwd0 fwd0 fwd0"), "fwd0 fwd0 fwd0"},
		// Any M has a Dec.
		{insOf(impl.InFwd, -1, impl.InSend, 10, impl.InFlush, -305), "fwd-1 send10 flush-305"}, {insOf(impl.InBwd, math.MaxInt, impl.InBwd, math.MinInt), "bwd9223372036854775807 bwd-9223372036854775808"},
		// A kind that has no word has an M all the same.
		{[]impl.Ins{{}}, "0"}, {insOf(9, 3), "3"}, {insOf(-1, -2), "-2"}, {insOf(impl.InFwd, 0, 0, 1, impl.InBwd, 2), "fwd0 1 bwd2"}, {insOf(0, 0, 9, 0, math.MaxInt, 4, math.MinInt, 5, 1<<32+2, 6), "0 0 4 5 6"},
	} {
		if got := impl.ShowPlan(c.l); got != c.want {
			t.Errorf("ShowPlan(%v) = %q, want %q", c.l, got, c.want)
		}
	}
	if got, want := impl.ShowPlan(slices.Repeat(planOf("recvg12"), 10000)), strings.TrimSuffix(strings.Repeat("recvg12 ", 10000), " "); got != want {
		t.Errorf("ShowPlan of 10000 instructions has %d bytes, want %d", len(got), len(want))
	}
}

func TestShowPlanOfEachPlan(t *testing.T) {
	eachPost(func(p post) {
		l := p.plan()
		s := impl.ShowPlan(l)
		if !slices.Equal(planOf(s), l) || strings.Join(strings.Fields(s), " ") != s {
			t.Fatalf("ShowPlan(%v) = %q", l, s)
		}
	})
}

func TestWhatIsAskedOfPlansWritesIntoNone(t *testing.T) {
	check := func(p post, l []impl.Ins) {
		t.Helper()
		l = withRoom(l, impl.Ins{Kind: 71, M: 72})
		was := slices.Clone(l[:cap(l)])
		impl.InFlight(l)
		impl.ShowPlan(l)
		p.ok(l)
		impl.PlanOk(l, -1, 0, 0, true)
		if !slices.Equal(l[:cap(l)], was) {
			t.Fatalf("of %+v: wrote into what was handed in: %v, was %v", p, l[:cap(l)], was)
		}
	}
	eachPost(func(p post) {
		l := p.plan()
		check(p, l)
		check(p, l[:len(l)-1])
		check(p, l[:len(l)/2])
		check(p, l[1:])
		check(p, l[:0])
		slices.Reverse(l)
		check(p, l)
		check(p, slices.Repeat(l, 3))
	})
}

func TestPlansAreNewMemory(t *testing.T) {
	spoil := func(l []impl.Ins) {
		whole := l[:cap(l)]
		for at := range whole {
			whole[at] = impl.Ins{Kind: 96, M: 97}
		}
	}
	eachPost(func(p post) {
		want := wantPlan(p)
		got, other := p.plan(), p.plan()
		shown := impl.ShowPlan(other)
		spoil(other)
		if again := p.plan(); !slices.Equal(got, want) || !slices.Equal(again, want) || !slices.Equal(planOf(shown), want) {
			t.Fatalf("Plan of %+v = %v, then %v, once an answer was written to, and %q of it", p, got, again, shown)
		}
		// Plans of others, too.
		for _, ds := range bothDs {
			spoil(impl.Plan(ds, p.stages, p.s, p.micro, !p.redo))
			spoil(impl.Plan(ds, p.stages, p.stages-1-p.s, impl.MaxMicro, p.redo))
		}
		if !slices.Equal(got, want) {
			t.Fatalf("Plan of %+v = %v once other answers were written to, want %v", p, got, want)
		}
	})
}
