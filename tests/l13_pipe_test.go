package tests

import (
	"fmt"
	"math"
	"math/rand/v2"
	"reflect"
	"slices"
	"testing"

	"loop.example/g01407/impl"
)

// wantPipe is what is laid out of a config and a batch.
func wantPipe(a asked) impl.Pipe {
	var p impl.Pipe
	if wantAdmit(a) != impl.AdOk {
		return p
	}
	p.Batch = a.B
	end := a.stages() - 1
	for s, redo := range a.C.Redo {
		part := wantPart(a.C, s)
		plan := wantPlan(post{ds: a.C.Ds, stages: a.stages(), s: s, micro: len(a.B), redo: redo})
		p.Stages = append(p.Stages, impl.Stage{Plan: plan, Ops: part, Last: s == end, Redo: redo, Sum: noughts(impl.Model{Ops: part})})
		if s < end {
			p.Acts, p.Backs = append(p.Acts, queue(a.C.Caps[s])), append(p.Backs, queue(a.C.Caps[s]))
		}
	}
	return plainOf(p)
}

func wantQueueOk(q impl.Queue) bool {
	return q.Cap >= 1 && q.Cap <= 5 && len(q.Items) <= q.Cap && !slices.ContainsFunc(q.Items, func(x impl.Item) bool {
		return x.M < 0 || x.M >= 5 || !fits(x.V, len(x.V))
	})
}

func wantPipeOk(p impl.Pipe) bool {
	end, micro := len(p.Stages)-1, len(p.Batch)
	right := end >= 0 && end < 4 && len(p.Acts) == end && len(p.Backs) == end && micro >= 1 && micro <= 5
	for _, x := range p.Batch {
		right = right && fits(x.X, len(x.X)) && fits(x.T, len(x.T))
	}
	for _, q := range slices.Concat(p.Acts, p.Backs) {
		right = right && wantQueueOk(q)
	}
	for at, s := range p.Stages {
		right = right && wantStageOk(s) && s.Last == (at == end)
		for _, i := range s.Plan {
			right = right && i.M >= 0 && i.M < micro
		}
	}
	return right
}

func wantNext(p impl.Pipe, s int) impl.Ins {
	for at, stage := range p.Stages {
		for pc, i := range stage.Plan {
			if at == s && pc == stage.Pc {
				return i
			}
		}
	}
	return impl.Ins{}
}

// atLast says whether each stage is at its last instruction, or behind it.
func atLast(p impl.Pipe) bool {
	return !slices.ContainsFunc(p.Stages, func(s impl.Stage) bool { return s.Pc < len(s.Plan)-1 })
}

func wantEnabled(p impl.Pipe, s int) bool {
	if !wantPipeOk(p) {
		return false
	}
	ahead, behind := s > 0, s < len(p.Stages)-1
	// Next tells kind 0 where there is no such stage.
	switch wantNext(p, s).Kind {
	case impl.InRecv:
		return ahead && len(p.Acts[s-1].Items) > 0
	case impl.InSend:
		return behind && len(p.Acts[s].Items) < p.Acts[s].Cap
	case impl.InRecvG:
		return behind && len(p.Backs[s].Items) > 0
	case impl.InSendG:
		return ahead && len(p.Backs[s-1].Items) < p.Backs[s-1].Cap
	case impl.InFwd, impl.InRedo, impl.InBwd:
		return true
	case impl.InFlush:
		return atLast(p)
	}
	return false
}

// wantPick moves things about in a copy, from place to place.
func wantPick(p impl.Pipe, s int) impl.Pipe {
	w := plainOf(p)
	if !wantEnabled(p, s) {
		return w
	}
	i, at := wantNext(p, s), &w.Stages[s]
	pop := func(q *impl.Queue, to *[]int) { *to, q.Items = q.Items[0].V, q.Items[1:] }
	push := func(q *impl.Queue, from *[]int) {
		if fits(*from, len(*from)) {
			q.Items = append(q.Items, item(i.M, *from...))
		}
		*from = nil
	}
	shown := p.Batch[i.M]
	switch i.Kind {
	case impl.InRecv:
		pop(&w.Acts[s-1], &at.X)
	case impl.InFwd:
		x := at.X
		if s == 0 {
			x = shown.X
		}
		*at = wantFwd(*at, i.M, x, shown.T)
	case impl.InSend:
		push(&w.Acts[s], &at.Y)
	case impl.InRecvG:
		pop(&w.Backs[s], &at.G)
	case impl.InRedo:
		*at = wantRedo(*at, i.M)
	case impl.InBwd:
		if *at = wantBwd(*at, i.M, shown.T); s == 0 {
			at.D = nil
		}
	case impl.InSendG:
		push(&w.Backs[s-1], &at.D)
	}
	at.Pc++
	return plainOf(w)
}

func wantLeft(p impl.Pipe) int {
	n := 0
	for _, s := range p.Stages {
		for pc := range s.Plan {
			if pc >= s.Pc {
				n++
			}
		}
	}
	return n
}

func wantDone(p impl.Pipe) bool { return len(p.Stages) != 0 && wantLeft(p) == 0 }

func wantResult(p impl.Pipe) impl.Grads {
	var g impl.Grads
	for _, s := range p.Stages {
		if wantDone(p) {
			g = grads(s.Sum.Loss, g.Sat || s.Sum.Sat, append(valuesOf(g.Rows), valuesOf(s.Sum.Rows)...)...)
		}
	}
	return g
}

func valuesOf(l []impl.Row) [][]int {
	var made [][]int
	for _, r := range l {
		made = append(made, r.V)
	}
	return made
}

// checkPick says where a turn of stage s is not what the chapter says, and tells what comes of it.
func checkPick(t *testing.T, p impl.Pipe, s int) impl.Pipe {
	t.Helper()
	if got, want := impl.Next(p, s), wantNext(p, s); got != want {
		t.Fatalf("Next(%s, %d) = %v, want %v", brief(p), s, got, want)
	}
	if got, want := impl.Enabled(p, s), wantEnabled(p, s); got != want {
		t.Fatalf("Enabled(%s, %d) is %v, at %v", brief(p), s, got, wantNext(p, s))
	}
	got, want := impl.Pick(p, s), wantPick(p, s)
	if !like(got, want) {
		t.Fatalf("Pick(%s, %d) at %v = %+v, want %+v", brief(p), s, wantNext(p, s), got, want)
	}
	if same := impl.SamePipe(got, p); same != like(want, p) {
		t.Fatalf("SamePipe(%s, %s) is %v", brief(got), brief(p), same)
	}
	return got
}

// checkPipe says where a pipe, right just where right is true, is answered otherwise.
func checkPipe(t *testing.T, name string, p impl.Pipe, right bool) {
	t.Helper()
	if wantPipeOk(p) != right {
		t.Fatalf("the test holds it to be right, %v: %s: %s", right, name, brief(p))
	}
	if got := impl.PipeOk(p); got != right {
		t.Fatalf("%s: PipeOk(%s) is %v", name, brief(p), got)
	}
	if left, done := impl.Left(p), impl.Done(p); left != wantLeft(p) || done != wantDone(p) {
		t.Fatalf("%s: of %s there are %d left, want %d, and Done is %v", name, brief(p), left, wantLeft(p), done)
	}
	if got, want := impl.ResultOf(p), wantResult(p); !alike(got, want) {
		t.Fatalf("%s: ResultOf(%s) = %v, want %v", name, brief(p), got, want)
	}
}

// checkStays wants that no stage goes on in this pipe.
func checkStays(t *testing.T, name string, p impl.Pipe) {
	t.Helper()
	for _, s := range append([]int{-1, math.MinInt, math.MaxInt, 256}, counting(0, len(p.Stages)+2)...) {
		if impl.Enabled(p, s) || !like(checkPick(t, p, s), p) {
			t.Fatalf("%s: stage %d of %s goes on", name, s, brief(p))
		}
	}
}

// enabledOf are the stages that may go on.
func enabledOf(p impl.Pipe) []int {
	var l []int
	for s := range p.Stages {
		if impl.Enabled(p, s) {
			l = append(l, s)
		}
	}
	return l
}

// laidOut is a pipe of what has to be admitted.
func laidOut(t *testing.T, a asked) impl.Pipe {
	t.Helper()
	p := impl.PipeNew(a.C, a.B)
	if want := wantPipe(a); !like(p, want) || len(p.Stages) == 0 {
		t.Fatalf("PipeNew(%s) = %+v, want %+v", brief(a), p, want)
	}
	return p
}

func withCaps(a asked, room int) asked {
	made := plainOf(a)
	for i := range made.C.Caps {
		made.C.Caps[i] = room
	}
	return made
}

func TestPipeNewByHand(t *testing.T) {
	dense, bias, relu := filled(impl.OpDense, 2, 3, one), filled(impl.OpBias, 3, 3, 5), filled(impl.OpRelu, 3, 3, 0)
	b := []impl.Pair{pair([]int{1, 2}, []int{3, 4, 5}), pair([]int{6, 7}, []int{8, 9, 10})}
	c := impl.Config{Model: model(dense, bias, relu), Cuts: []int{1, 2}, Ds: impl.DsOne, Redo: []bool{true, false, true}, Caps: []int{3, 1}, Limits: slices.Repeat([]int{impl.MaxLimit}, 3)}
	want := impl.Pipe{
		Batch: b,
		Stages: []impl.Stage{
			{Plan: planOf("fwd0 send0 fwd1 send1 recvg0 redo0 bwd0 recvg1 redo1 bwd1 flush0"), Ops: []impl.Op{dense}, Redo: true, Sum: grads(0, false, make([]int, 6))},
			{Plan: planOf("recv0 fwd0 send0 recv1 fwd1 send1 recvg0 bwd0 sendg0 recvg1 bwd1 sendg1 flush0"), Ops: []impl.Op{bias}, Sum: grads(0, false, make([]int, 3))},
			{Plan: planOf("recv0 fwd0 redo0 bwd0 sendg0 recv1 fwd1 redo1 bwd1 sendg1 flush0"), Ops: []impl.Op{relu}, Last: true, Redo: true, Sum: grads(0, false, nil)},
		},
		Acts: []impl.Queue{queue(3), queue(1)}, Backs: []impl.Queue{queue(3), queue(1)},
	}
	if got := laidOut(t, asked{c, b}); !like(got, want) {
		t.Errorf("three stages: %+v, want %+v", got, want)
	}
	alone := impl.Config{Model: model(dense, bias), Ds: impl.DsAll, Redo: []bool{false}, Limits: []int{impl.MaxLimit}}
	want = impl.Pipe{Batch: b, Stages: []impl.Stage{{Plan: planOf("fwd0 fwd1 bwd0 bwd1 flush0"), Ops: []impl.Op{dense, bias}, Last: true, Sum: grads(0, false, make([]int, 6), make([]int, 3))}}}
	if got := laidOut(t, asked{alone, b}); !like(got, want) {
		t.Errorf("one stage: %+v, want %+v", got, want)
	}
}

func TestPipeNew(t *testing.T) {
	check := func(a asked) {
		p := laidOut(t, a)
		checkPipe(t, "a new pipe", p, true)
		instructions := 0
		for s := range p.Stages {
			instructions += len(p.Stages[s].Plan)
			if got := impl.Next(p, s); got != p.Stages[s].Plan[0] {
				t.Fatalf("Next(%s, %d) = %v", brief(p), s, got)
			}
		}
		if impl.Left(p) != instructions || impl.Done(p) || !isZeroGrads(impl.ResultOf(p)) {
			t.Fatalf("of the new %s there are %d left, Done is %v", brief(p), impl.Left(p), impl.Done(p))
		}
		// The first stage alone has something to begin with.
		if got := enabledOf(p); !slices.Equal(got, []int{0}) {
			t.Fatalf("of the new %s these may go on: %v", brief(p), got)
		}
	}
	eachTight(func(a asked) {
		check(a)
		for room := 1; room <= impl.MaxMicro; room++ {
			check(withCaps(a, room))
		}
	})
	for _, m := range stageModels() {
		for stages := 1; stages <= min(len(m.Ops), impl.MaxStages); stages++ {
			for i, cuts := range wantAllCuts(len(m.Ops), stages) {
				check(tightAsked(m, cuts, bothDs[i%2], slices.Repeat([]bool{i%4 < 2}, stages), 1+i%impl.MaxMicro))
			}
		}
	}
}

func TestPipeNewOfWhatIsNotAdmitted(t *testing.T) {
	none := func(a asked, code int) {
		t.Helper()
		if got := impl.PipeNew(a.C, a.B); !like(got, impl.Pipe{}) || wantAdmit(a) != code || impl.PipeOk(got) {
			t.Fatalf("PipeNew(%s) = %s, want the zero one for reason %d", brief(a), brief(got), code)
		}
	}
	eachTight(func(a asked) {
		for code, l := range faultsOf(a) {
			for _, f := range l {
				wrong := plainOf(a)
				f.change(&wrong)
				none(wrong, code)
			}
		}
	})
	eachWrongModel(func(m impl.Model, p impl.Pair) {
		none(asked{impl.Config{Model: m, Ds: impl.DsAll, Redo: []bool{false}, Limits: []int{impl.MaxLimit}}, []impl.Pair{p}}, impl.AdModel)
	})
	none(asked{}, impl.AdModel)
	checkStays(t, "the zero one", impl.Pipe{})
}

func TestPipeNewOfAnything(t *testing.T) {
	r := rand.New(rand.NewPCG(13, 38))
	made := 0
	for range 10000 {
		a := anyAsked(r)
		got, want := impl.PipeNew(a.C, a.B), wantPipe(a)
		if !like(got, want) || impl.PipeOk(got) != (wantAdmit(a) == impl.AdOk) {
			t.Fatalf("PipeNew(%s) = %s, want %s", brief(a), brief(got), brief(want))
		}
		if len(got.Stages) > 0 {
			made++
		}
	}
	if made < 1000 || made > 9000 {
		t.Errorf("%d of 10000 were admitted: the test asks too little", made)
	}
}

// fullPipe is a right pipe of so many stages in which something stands in each list; no two queues, pairs or stages are alike.
func fullPipe(stages int, redo bool) impl.Pipe {
	p := impl.Pipe{Batch: []impl.Pair{pair([]int{1, 2}, []int{3}), pair([]int{4}, []int{5, 6, 7}), pair([]int{most}, []int{-most, 0})}}
	for s := range stages {
		stage := stageWith(chainOf(1+s, s, 1, 2).Ops, s == stages-1, redo != (s%2 == 0))
		stage.Plan = planOf("fwd0 send1 recv0 bwd2 redo1 recvg0 sendg2 flush0")
		stage.Pc = (3 * s) % 8
		p.Stages = append(p.Stages, stage)
		if s > 0 {
			p.Acts = append(p.Acts, queue(2+s%3, itemsFrom(7*s, 2)...))
			p.Backs = append(p.Backs, queue(5-s%3, itemsFrom(11*s, 1)...))
		}
	}
	return plainOf(p)
}

// eachFullPipe calls f with such pipes of each number of stages.
func eachFullPipe(f func(p impl.Pipe)) {
	for stages := 1; stages <= impl.MaxStages; stages++ {
		f(fullPipe(stages, false))
		f(fullPipe(stages, true))
	}
}

// eachPipeFault calls f with pipes of which one thing alone is not right, each made of a right one.
func eachPipeFault(right impl.Pipe, f func(name string, wrong impl.Pipe)) {
	with := func(name string, change func(p *impl.Pipe)) {
		p := plainOf(right)
		change(&p)
		f(name, p)
	}
	end := len(right.Stages) - 1
	with("no stage", func(p *impl.Pipe) { p.Stages = nil })
	with("no stage, and no queue", func(p *impl.Pipe) { p.Stages, p.Acts, p.Backs = []impl.Stage{}, nil, nil })
	with("Last missing at the last one", func(p *impl.Pipe) { p.Stages[end].Last = false })
	for s := range end {
		with(fmt.Sprintf("Last at %d", s), func(p *impl.Pipe) { p.Stages[s].Last = true })
		with(fmt.Sprintf("Last at %d alone", s), func(p *impl.Pipe) { p.Stages[s].Last, p.Stages[end].Last = true, false })
	}
	with("no pair", func(p *impl.Pipe) { p.Batch = nil })
	with("no pair, and no instruction", func(p *impl.Pipe) {
		p.Batch = []impl.Pair{}
		for s := range p.Stages {
			p.Stages[s].Pc, p.Stages[s].Plan = 0, nil
		}
	})
	for _, more := range []int{1, 2, 256} {
		with("pairs too many", func(p *impl.Pipe) {
			for len(p.Batch) < impl.MaxMicro+more {
				p.Batch = append(p.Batch, p.Batch[0])
			}
		})
	}
	eachPairFault(right, with)
	eachQueueFault(right, with)
	eachPlanFault(right, with)
	eachStageFault(right, with)
}

func eachPairFault(right impl.Pipe, with func(name string, change func(p *impl.Pipe))) {
	for at := range right.Batch {
		for _, v := range wrongRows() {
			with(fmt.Sprintf("X of pair %d", at), func(p *impl.Pipe) { p.Batch[at].X = v })
			with(fmt.Sprintf("T of pair %d", at), func(p *impl.Pipe) { p.Batch[at].T = v })
		}
	}
}

func eachQueueFault(right impl.Pipe, with func(name string, change func(p *impl.Pipe))) {
	end := len(right.Stages) - 1
	some := queue(2, itemsFrom(3, 1)...)
	with("a queue of activations more", func(p *impl.Pipe) { p.Acts = append(p.Acts, some) })
	with("a queue of gradients more", func(p *impl.Pipe) { p.Backs = append(p.Backs, some) })
	with("a queue of each kind more", func(p *impl.Pipe) { p.Acts, p.Backs = append(p.Acts, some), append(p.Backs, some) })
	if end == 0 {
		return
	}
	with("a queue of activations less", func(p *impl.Pipe) { p.Acts = p.Acts[1:] })
	with("a queue of gradients less", func(p *impl.Pipe) { p.Backs = p.Backs[:end-1] })
	with("a queue of each kind less", func(p *impl.Pipe) { p.Acts, p.Backs = p.Acts[:end-1], p.Backs[1:] })
	with("a queue of the other kind", func(p *impl.Pipe) { p.Acts, p.Backs = append(p.Acts, p.Backs[0]), p.Backs[1:] })
	with("no queues", func(p *impl.Pipe) { p.Acts, p.Backs = nil, nil })
	for at := range end {
		for i, q := range append(wrongQueues(), impl.Queue{}) {
			// There are many wrong ones of the same kind.
			if (i+at)%3 != 0 && len(q.Items) > 0 {
				continue
			}
			with(fmt.Sprintf("queue %d of activations", at), func(p *impl.Pipe) { p.Acts[at] = q })
			with(fmt.Sprintf("queue %d of gradients", at), func(p *impl.Pipe) { p.Backs[at] = q })
		}
	}
}

func eachPlanFault(right impl.Pipe, with func(name string, change func(p *impl.Pipe))) {
	micro := len(right.Batch)
	for s, stage := range right.Stages {
		for pc := range stage.Plan {
			for _, m := range []int{-1, micro, micro + 1, math.MinInt, math.MaxInt, 256, 1 << 32} {
				with(fmt.Sprintf("M of instruction %d of stage %d", pc, s), func(p *impl.Pipe) { p.Stages[s].Plan[pc].M = m })
			}
		}
		with("a pair less", func(p *impl.Pipe) {
			p.Stages[s].Plan[0].M = micro - 1
			p.Batch = p.Batch[:micro-1]
		})
	}
}

func eachStageFault(right impl.Pipe, with func(name string, change func(p *impl.Pipe))) {
	for s, stage := range right.Stages {
		n := 0
		eachFault(stage, func(name string, wrong impl.Stage) {
			// Likewise.
			if n++; n%7 == s {
				with(fmt.Sprintf("stage %d: %s", s, name), func(p *impl.Pipe) { p.Stages[s] = wrong })
			}
		})
		with(fmt.Sprintf("stage %d is the zero one", s), func(p *impl.Pipe) { p.Stages[s] = impl.Stage{Last: stage.Last} })
	}
}

func TestPipeOk(t *testing.T) {
	checkPipe(t, "the zero one", impl.Pipe{}, false)
	eachFullPipe(func(right impl.Pipe) {
		checkPipe(t, "as it is", right, true)
		eachPipeFault(right, func(name string, p impl.Pipe) { checkPipe(t, name, p, false) })
	})
	for _, ds := range bothDs {
		p := laidOut(t, tightAsked(gentleModel(5, 1, 2, 1), []int{2, 3}, ds, []bool{true, false, true}, 3))
		// The same of one that is new, and of one that is on its way.
		for range 3 {
			eachPipeFault(p, func(name string, p impl.Pipe) { checkPipe(t, name, p, false) })
			for range 7 {
				p = impl.Pick(p, enabledOf(p)[0])
			}
		}
	}
	five := fullPipe(impl.MaxStages, false)
	for range 3 {
		five.Stages[len(five.Stages)-1].Last = false
		five.Stages = append(five.Stages, stageWith(model(op(impl.OpRelu, 1)).Ops, true, false))
		five.Stages[len(five.Stages)-1].Plan = planOf("fwd0 bwd0 flush0")
		five.Acts, five.Backs = append(five.Acts, queue(1)), append(five.Backs, queue(1))
		checkPipe(t, "more than MaxStages", five, false)
		checkStays(t, "more than MaxStages", five)
	}
}

func TestPipesThatAreRightAllTheSame(t *testing.T) {
	eachFullPipe(func(right impl.Pipe) {
		with := func(name string, change func(p *impl.Pipe)) {
			p := plainOf(right)
			change(&p)
			checkPipe(t, name, p, true)
		}
		for more := range impl.MaxMicro - 2 {
			with("more pairs", func(p *impl.Pipe) { p.Batch = append(p.Batch, batchFor(1+more, 6-more, more)...) })
		}
		for size := 1; size <= impl.MaxDim; size++ {
			with("pairs of any size", func(p *impl.Pipe) { p.Batch[size%3] = pair(rightRow(size, size), rightRow(7-size, size)) })
		}
		for s := range right.Stages {
			with("Pc behind the end", func(p *impl.Pipe) { p.Stages[s].Pc = len(p.Stages[s].Plan) })
			with("no plan", func(p *impl.Pipe) { p.Stages[s].Pc, p.Stages[s].Plan = 0, nil })
			with("other kinds", func(p *impl.Pipe) {
				p.Stages[s].Pc, p.Stages[s].Plan = s, insOf(0, 0, 9, 2, math.MinInt, 1, 1<<32+1, 0, 8, 2)
			})
			with("operations of other sizes than those about them", func(p *impl.Pipe) {
				p.Stages[s] = stageWith(model(filled(impl.OpDense, 5, 4, one)).Ops, p.Stages[s].Last, false)
				p.Stages[s].Plan = nil
				p.Stages[s].Pc = 0
			})
			if !right.Stages[s].Last {
				for size := 1; size <= impl.MaxMicro; size++ {
					with("queues as full as they may be", func(p *impl.Pipe) { p.Acts[s], p.Backs[s] = queue(size, itemsFrom(s, size)...), queue(6-size) })
				}
			}
		}
	})
}

func TestNext(t *testing.T) {
	check := func(p impl.Pipe, s int, want impl.Ins) {
		t.Helper()
		if got := impl.Next(p, s); got != want || wantNext(p, s) != want {
			t.Errorf("Next(%s, %d) = %v, want %v", brief(p), s, got, want)
		}
	}
	plan := insOf(2, 1, -7, 99, 8, 0)
	for stages := 1; stages <= 6; stages++ {
		for s := range stages {
			p := impl.Pipe{Stages: make([]impl.Stage, stages)}
			p.Stages[s] = impl.Stage{Plan: plan}
			for pc, want := range plan {
				p.Stages[s].Pc = pc
				check(p, s, want)
			}
			for _, pc := range append(farNumbers, 3, 4, -1, -2, -3, math.MinInt+3) {
				p.Stages[s].Pc = pc
				check(p, s, impl.Ins{})
			}
			p.Stages[s].Pc = 1
			for _, other := range append(farNumbers, -1, -2, stages, stages+1) {
				check(p, other, impl.Ins{})
			}
			for other := range stages {
				if other != s {
					check(p, other, impl.Ins{})
				}
			}
		}
	}
	check(impl.Pipe{}, 0, impl.Ins{})
	check(impl.Pipe{}, -1, impl.Ins{})
	// What stands behind the end is no part of it.
	check(impl.Pipe{Stages: []impl.Stage{{Pc: 1, Plan: plan[:1]}}}, 0, impl.Ins{})
	check(impl.Pipe{Stages: []impl.Stage{{}, {Plan: plan}}[:1]}, 1, impl.Ins{})
	p := laidOut(t, tightAsked(gentleModel(4, 1, 2, 1), []int{2}, impl.DsOne, []bool{true, false}, 2))
	check(p, 0, impl.Ins{Kind: impl.InFwd})
	check(p, 1, impl.Ins{Kind: impl.InRecv})
	for s := range p.Stages {
		p.Stages[s].Pc = len(p.Stages[s].Plan) - 1
		check(p, s, impl.Ins{Kind: impl.InFlush})
		p.Stages[s].Pc++
		check(p, s, impl.Ins{})
	}
}

// plainPipe is a right pipe of three pairs and so many stages, each of which adds One; all are at InFlush, their last instruction, and each queue has Cap 2 and no item.
func plainPipe(stages int) impl.Pipe {
	p := impl.Pipe{Batch: []impl.Pair{pair([]int{5}, []int{50}), pair([]int{6}, []int{60}), pair([]int{7}, []int{70})}}
	for s := range stages {
		p.Stages = append(p.Stages, impl.StageNew([]impl.Op{op(impl.OpBias, 1, one)}, planOf("flush0"), s == stages-1, false))
		if s > 0 {
			p.Acts, p.Backs = append(p.Acts, queue(2)), append(p.Backs, queue(2))
		}
	}
	return p
}

// facing puts one instruction ahead of the plan of stage s, which is at it.
func facing(p impl.Pipe, s, kind, m int) impl.Pipe {
	made := plainOf(p)
	made.Stages[s].Pc = 0
	made.Stages[s].Plan = append(insOf(kind, m), made.Stages[s].Plan...)
	return made
}

// checkMay says where it is not told that stage s may go on, or may not.
func checkMay(t *testing.T, name string, p impl.Pipe, s int, may bool) impl.Pipe {
	t.Helper()
	if wantEnabled(p, s) != may {
		t.Fatalf("the test holds it to be so, %v: %s: stage %d of %s", may, name, s, brief(p))
	}
	if got := impl.Enabled(p, s); got != may {
		t.Errorf("%s: Enabled(%s, %d) is %v", name, brief(p), s, got)
	}
	got := checkPick(t, p, s)
	if less := impl.Left(p) - impl.Left(got); may && less != 1 || !may && less != 0 {
		t.Errorf("%s: by stage %d of %s, Left is %d less", name, s, brief(p), less)
	}
	return got
}

func TestEnabledOfQueues(t *testing.T) {
	for stages := 1; stages <= impl.MaxStages; stages++ {
		for s := range stages {
			for _, c := range []struct {
				kind  int
				there bool                           // is there such a queue?
				takes bool                           // does it take from it?
				of    func(p *impl.Pipe) *impl.Queue // that queue
			}{
				{impl.InRecv, s > 0, true, func(p *impl.Pipe) *impl.Queue { return &p.Acts[s-1] }},
				{impl.InSend, s < stages-1, false, func(p *impl.Pipe) *impl.Queue { return &p.Acts[s] }},
				{impl.InRecvG, s < stages-1, true, func(p *impl.Pipe) *impl.Queue { return &p.Backs[s] }},
				{impl.InSendG, s > 0, false, func(p *impl.Pipe) *impl.Queue { return &p.Backs[s-1] }},
			} {
				p := facing(plainPipe(stages), s, c.kind, 1)
				for size := 1; size <= impl.MaxMicro; size++ {
					for count := range size + 1 {
						may := c.there && (c.takes && count > 0 || !c.takes && count < size)
						// All other queues are such that it would be the other way with them.
						others := 2
						if c.takes == may {
							others = 0
						}
						for i := range p.Acts {
							p.Acts[i].Items, p.Backs[i].Items = itemsFrom(i, others), itemsFrom(i, others)
						}
						if c.there {
							*c.of(&p) = queue(size, itemsFrom(count, count)...)
						}
						checkMay(t, "a queue", p, s, may)
						if c.there {
							*c.of(&p) = queue(2)
						}
					}
				}
			}
		}
	}
}

func TestEnabledOfInstructionsThatNeedNoQueue(t *testing.T) {
	for stages := 1; stages <= impl.MaxStages; stages++ {
		for s := range stages {
			for m := range 3 {
				for _, kind := range []int{impl.InFwd, impl.InRedo, impl.InBwd} {
					checkMay(t, "no queue", facing(plainPipe(stages), s, kind, m), s, true)
				}
				for _, kind := range append(farNumbers, 0, -1, -8, 9, 10, 1<<32+2) {
					checkMay(t, "another kind", facing(plainPipe(stages), s, kind, m), s, false)
				}
			}
			p := plainPipe(stages)
			p.Stages[s].Pc = 1
			checkMay(t, "no instruction", p, s, false)
			p.Stages[s].Pc, p.Stages[s].Plan = 0, nil
			checkMay(t, "no plan", p, s, false)
		}
		for _, s := range append(farNumbers, -1, -2, stages, stages+1) {
			checkMay(t, "no such stage", plainPipe(stages), s, false)
		}
	}
}

func TestEnabledOfFlush(t *testing.T) {
	flush, sent := planOf("flush0"), planOf("fwd0 bwd0 flush0")
	for stages := 1; stages <= impl.MaxStages; stages++ {
		for s := range stages {
			p := plainPipe(stages)
			checkMay(t, "all at their last", p, s, true)
			// Each other one has come, is through, or has not come, by one or by two.
			for places := range 1 << (2 * stages) {
				all := true
				for other := range stages {
					p.Stages[other].Plan = sent
					p.Stages[other].Pc = 3 - places>>(2*other)&3
					all = all && (p.Stages[other].Pc >= 2 || other == s)
				}
				p.Stages[s].Plan, p.Stages[s].Pc = flush, 0
				checkMay(t, "others on their way", p, s, all)
				// It is at InFlush, but not at its own last instruction.
				p.Stages[s].Plan = slices.Concat(flush, flush)
				checkMay(t, "two of them", p, s, false)
				p.Stages[s].Pc = 1
				checkMay(t, "the second of two", p, s, all)
			}
			for other := range stages {
				if other == s {
					continue
				}
				p = plainPipe(stages)
				// What matters is where they are, not what their last instruction is.
				p.Stages[other].Plan = planOf("fwd0")
				checkMay(t, "another kind is the last one", p, s, true)
				p.Stages[other].Plan = planOf("flush0 fwd0")
				checkMay(t, "at InFlush, but not at the last one", p, s, false)
				p.Stages[other].Plan = nil
				checkMay(t, "no plan", p, s, true)
			}
			for m := range 3 {
				p = plainPipe(stages)
				p.Stages[s].Plan[0].M = m
				checkMay(t, "of any micro-batch", p, s, true)
			}
		}
	}
}

func TestWrongPipesStayAsTheyAre(t *testing.T) {
	right := laidOut(t, tightAsked(gentleModel(5, 1, 2, 1), []int{2, 3}, impl.DsOne, []bool{true, false, true}, 2))
	for range 3 {
		n := 0
		eachPipeFault(right, func(name string, p impl.Pipe) {
			// As it takes long, some of each kind.
			if n++; n%3 == 0 || len(p.Stages) == 0 {
				checkStays(t, name, p)
			}
		})
		for range 9 {
			right = impl.Pick(right, enabledOf(right)[0])
		}
	}
	// The same instruction is let in where the pipe is right.
	for _, kind := range []int{impl.InFwd, impl.InRedo, impl.InBwd, impl.InFlush} {
		p := plainPipe(2)
		p.Stages[0].Plan = insOf(kind, 0)
		checkMay(t, "right", p, 0, true)
		p.Batch[2].T = nil
		checkMay(t, "a pair that nothing comes to", p, 0, false)
		p.Batch[2].T = []int{0}
		checkMay(t, "right again", p, 0, true)
		p.Stages[1].Last = false
		checkMay(t, "no last one", p, 0, false)
	}
}

// threeStages is a right pipe: the first stage doubles, the one between adds One, the last one trebles; with something in each X, Y, G and D.
func threeStages(redo bool) impl.Pipe {
	p := impl.Pipe{Batch: []impl.Pair{pair([]int{one}, []int{8 * one}), pair([]int{2 * one}, []int{14 * one})}, Acts: []impl.Queue{queue(2), queue(2)}, Backs: []impl.Queue{queue(2), queue(2)}}
	for s, o := range []impl.Op{op(impl.OpScale, 1, 2*one), op(impl.OpBias, 1, one), op(impl.OpScale, 1, 3*one)} {
		stage := impl.StageNew([]impl.Op{o}, planOf("flush0"), s == 2, redo)
		stage.X, stage.Y, stage.G, stage.D = []int{10 * one}, []int{20 * one}, []int{30 * one}, []int{40 * one}
		p.Stages = append(p.Stages, stage)
	}
	return p
}

// checkTurn wants one turn of stage s at an instruction to change just what change says, and Pc.
func checkTurn(t *testing.T, name string, p impl.Pipe, s, kind, m int, change func(p *impl.Pipe, s *impl.Stage)) {
	t.Helper()
	p = facing(p, s, kind, m)
	want := plainOf(p)
	change(&want, &want.Stages[s])
	want.Stages[s].Pc = 1
	if got := checkPick(t, p, s); !like(got, want) {
		t.Errorf("%s: %+v became %+v, want %+v", name, p, got, want)
	}
}

func TestPickOfQueues(t *testing.T) {
	for _, redo := range []bool{false, true} {
		p := threeStages(redo)
		for i := range p.Acts {
			p.Acts[i].Items = []impl.Item{item(i, 100+i), item(1-i, 110+i)}
			p.Backs[i].Items = []impl.Item{item(1-i, 200+i), item(i, 210+i)}
		}
		// X and G are what is popped off, whose ever it is.
		for m := range 2 {
			for s := 1; s <= 2; s++ {
				checkTurn(t, "InRecv", p, s, impl.InRecv, m, func(p *impl.Pipe, stage *impl.Stage) {
					stage.X, p.Acts[s-1].Items = []int{100 + s - 1}, []impl.Item{item(2-s, 110+s-1)}
				})
			}
			for s := range 2 {
				checkTurn(t, "InRecvG", p, s, impl.InRecvG, m, func(p *impl.Pipe, stage *impl.Stage) {
					stage.G, p.Backs[s].Items = []int{200 + s}, []impl.Item{item(s, 210+s)}
				})
			}
		}
		for count := range 2 {
			for m := range 2 {
				for i := range p.Acts {
					p.Acts[i].Items, p.Backs[i].Items = p.Acts[i].Items[:count], p.Backs[i].Items[:count]
				}
				for s := range 2 {
					checkTurn(t, "InSend", p, s, impl.InSend, m, func(p *impl.Pipe, stage *impl.Stage) {
						stage.Y, p.Acts[s].Items = nil, append(p.Acts[s].Items, item(m, 20*one))
					})
				}
				for s := 1; s <= 2; s++ {
					checkTurn(t, "InSendG", p, s, impl.InSendG, m, func(p *impl.Pipe, stage *impl.Stage) {
						stage.D, p.Backs[s-1].Items = nil, append(p.Backs[s-1].Items, item(m, 40*one))
					})
				}
			}
			for i := range p.Acts {
				p.Acts[i].Items, p.Backs[i].Items = []impl.Item{item(i, 100+i)}, []impl.Item{item(1-i, 200+i)}
			}
		}
	}
}

func TestPickOfWhatIsNotThereOrDoesNotFit(t *testing.T) {
	p := threeStages(false)
	for s := range p.Stages {
		p.Stages[s].X, p.Stages[s].Y, p.Stages[s].G, p.Stages[s].D = nil, []int{}, nil, []int{}
	}
	same := func(*impl.Pipe, *impl.Stage) {}
	// What is empty does not go into a queue; nothing to go ahead or back with, and nothing saved: Pc alone goes on.
	for m := range 2 {
		checkTurn(t, "InSend of nothing", p, 0, impl.InSend, m, same)
		checkTurn(t, "InSend of nothing", p, 1, impl.InSend, m, same)
		checkTurn(t, "InSendG of nothing", p, 1, impl.InSendG, m, same)
		checkTurn(t, "InSendG of nothing", p, 2, impl.InSendG, m, same)
		for s := range 3 {
			checkTurn(t, "InRedo of nothing", p, s, impl.InRedo, m, same)
			checkTurn(t, "InBwd of nothing", p, s, impl.InBwd, m, same)
			if s > 0 {
				checkTurn(t, "InFwd of nothing", p, s, impl.InFwd, m, same)
			}
		}
	}
	// In the first stage D is empty then, also where nothing is saved.
	p = threeStages(false)
	checkTurn(t, "InBwd in the first stage", p, 0, impl.InBwd, 0, func(_ *impl.Pipe, s *impl.Stage) { s.D = nil })
	checkTurn(t, "InBwd between", p, 1, impl.InBwd, 0, same)
	checkTurn(t, "InBwd in the last stage", p, 2, impl.InBwd, 0, same)
	// A pair that is not of the model's size.
	p.Batch[1] = pair([]int{1, 2}, []int{3, 4})
	checkTurn(t, "InFwd of another size", p, 0, impl.InFwd, 1, same)
	checkTurn(t, "InFwd to another size", p, 2, impl.InFwd, 1, same)
	// What is popped off is not asked whether it fits: the pipe is not right any more, and stays so.
	p.Acts[0].Items, p.Backs[1].Items = []impl.Item{item(4, 1, 2)}, []impl.Item{item(3, 1, 2, 3)}
	for _, c := range []struct{ s, kind int }{{1, impl.InRecv}, {1, impl.InRecvG}} {
		got := checkPick(t, facing(p, c.s, c.kind, 0), c.s)
		checkPipe(t, "an X or a G of another size", got, false)
		checkStays(t, "an X or a G of another size", got)
	}
}

func TestPickOfFwd(t *testing.T) {
	for _, redo := range []bool{false, true} {
		p := threeStages(redo)
		kept := func(m int, l ...[]int) []impl.Saved {
			if redo {
				l = l[:1]
			}
			return []impl.Saved{saved(m, l...)}
		}
		for m := range 2 {
			x := (m + 1) * one
			// The first stage has X of the pair, and not what is in its own X.
			checkTurn(t, "first", p, 0, impl.InFwd, m, func(_ *impl.Pipe, s *impl.Stage) {
				s.X, s.Y, s.Stash = nil, []int{2 * x}, kept(m, []int{x}, []int{2 * x})
			})
			checkTurn(t, "between", p, 1, impl.InFwd, m, func(_ *impl.Pipe, s *impl.Stage) {
				s.X, s.Y, s.Stash = nil, []int{11 * one}, kept(m, []int{10 * one}, []int{11 * one})
			})
			// The last one has its own X, and T of the pair: 22 and 16 are off.
			checkTurn(t, "last", p, 2, impl.InFwd, m, func(_ *impl.Pipe, s *impl.Stage) {
				s.X, s.Stash, s.Sum.Loss = nil, kept(m, []int{10 * one}, []int{30 * one}), []int{22 * 22 / 2 * one, 16 * 16 / 2 * one}[m]
			})
		}
		// One that is first and last: X and T of the pair.
		alone := impl.Pipe{Batch: p.Batch, Stages: p.Stages[2:]}
		checkTurn(t, "alone", alone, 0, impl.InFwd, 1, func(_ *impl.Pipe, s *impl.Stage) {
			s.X, s.Stash, s.Sum.Loss = nil, kept(1, []int{2 * one}, []int{6 * one}), 8*8/2*one
		})
	}
}

func TestPickOfRedoAndBwd(t *testing.T) {
	for _, redo := range []bool{false, true} {
		p := threeStages(redo)
		for s, end := range []int{4 * one, 3 * one, 6 * one} {
			into := rows([]int{2 * one}, []int{end})
			for m := range 2 {
				p.Stages[s].Stash = append(p.Stages[s].Stash, impl.Saved{M: 1 - m, Rows: into})
				if redo {
					p.Stages[s].Stash[m].Rows = into[:1]
					p.Stages[s].Full = into
				}
			}
		}
		for m := range 2 {
			for s, end := range []int{4 * one, 3 * one, 6 * one} {
				checkTurn(t, "InRedo", p, s, impl.InRedo, m, func(_ *impl.Pipe, s *impl.Stage) { s.Full = rows([]int{2 * one}, []int{end}) })
			}
			left := func(s *impl.Stage) { s.G, s.Full, s.Stash = nil, nil, s.Stash[m:m+1] }
			checkTurn(t, "InBwd in the first stage", p, 0, impl.InBwd, m, func(_ *impl.Pipe, s *impl.Stage) {
				left(s)
				s.D, s.Sum.Rows = nil, rows([]int{60 * one})
			})
			checkTurn(t, "InBwd between", p, 1, impl.InBwd, m, func(_ *impl.Pipe, s *impl.Stage) {
				left(s)
				s.D, s.Sum.Rows = []int{30 * one}, rows([]int{30 * one})
			})
			// The last one begins with 6 less T of the pair, whatever is in its G.
			checkTurn(t, "InBwd in the last stage", p, 2, impl.InBwd, m, func(_ *impl.Pipe, s *impl.Stage) {
				off := (6 - []int{8, 14}[m]) * one
				left(s)
				s.D, s.Sum.Rows = []int{3 * off}, rows([]int{2 * off})
			})
			alone := impl.Pipe{Batch: p.Batch, Stages: p.Stages[2:]}
			checkTurn(t, "InBwd in a stage alone", alone, 0, impl.InBwd, m, func(_ *impl.Pipe, s *impl.Stage) {
				left(s)
				s.D, s.Sum.Rows = nil, rows([]int{2 * (6 - []int{8, 14}[m]) * one})
			})
		}
	}
}

func TestPickOfFlush(t *testing.T) {
	p := threeStages(false)
	for s := range 3 {
		want := plainOf(p)
		want.Stages[s].Pc = 1
		if p = checkPick(t, p, s); !like(p, want) {
			t.Errorf("InFlush: %+v, want %+v", p, want)
		}
	}
	if !impl.Done(p) || impl.Left(p) != 0 {
		t.Errorf("behind three times InFlush, Left is %d", impl.Left(p))
	}
	checkStays(t, "all is done", p)
}

func TestLeftAndDone(t *testing.T) {
	stage := func(pc, instructions int) impl.Stage {
		return impl.Stage{Pc: pc, Plan: slices.Repeat(insOf(9, -1), instructions)}
	}
	for _, c := range []struct {
		stages []impl.Stage
		left   int
		done   bool
	}{
		{nil, 0, false}, {[]impl.Stage{}, 0, false}, {[]impl.Stage{{}}, 0, true}, {[]impl.Stage{{}, {}, {}, {}, {}}, 0, true},
		{[]impl.Stage{stage(0, 1)}, 1, false}, {[]impl.Stage{stage(1, 1)}, 0, true}, {[]impl.Stage{stage(0, 7)}, 7, false}, {[]impl.Stage{stage(6, 7)}, 1, false}, {[]impl.Stage{stage(7, 7)}, 0, true},
		{[]impl.Stage{stage(0, 3), stage(1, 3), stage(2, 3), stage(3, 3)}, 6, false}, {[]impl.Stage{stage(3, 3), stage(2, 3)}, 1, false}, {[]impl.Stage{stage(2, 3), stage(3, 3)}, 1, false}, {[]impl.Stage{stage(3, 3), {}, stage(5, 5)}, 0, true},
		// Stages that are not right: Pc far behind the end takes nothing away, and none are ahead of the first instruction.
		{[]impl.Stage{stage(4, 3)}, 0, true}, {[]impl.Stage{stage(9, 3), stage(0, 2)}, 2, false}, {[]impl.Stage{stage(math.MaxInt, 3), stage(1, 2)}, 1, false}, {[]impl.Stage{stage(math.MaxInt, 0)}, 0, true},
		{[]impl.Stage{stage(-1, 3)}, 3, false}, {[]impl.Stage{stage(math.MinInt, 3), stage(3, 3)}, 3, false}, {[]impl.Stage{stage(-5, 0)}, 0, true},
		// What stands behind the end is no part of it.
		{[]impl.Stage{stage(0, 3), stage(0, 4)}[:1], 3, false}, {[]impl.Stage{{Plan: planOf("fwd0 bwd0")[:1]}}, 1, false}, {[]impl.Stage{{Plan: planOf("fwd0")[:0]}}, 0, true},
	} {
		p := impl.Pipe{Stages: c.stages}
		if left, done := impl.Left(p), impl.Done(p); left != c.left || done != c.done {
			t.Errorf("of %s: Left is %d, want %d, Done is %v, want %v", brief(p), left, c.left, done, c.done)
		}
		checkPipe(t, "by hand", p, false)
	}
}

func TestResultOf(t *testing.T) {
	done := func(g impl.Grads) impl.Stage {
		return impl.Stage{Pc: 1, Plan: planOf("flush0"), Sum: g}
	}
	for _, c := range []struct {
		stages []impl.Stage
		want   impl.Grads
	}{
		{[]impl.Stage{done(grads(5, false, []int{1, 2}, nil, []int{3}))}, grads(5, false, []int{1, 2}, nil, []int{3})},
		{[]impl.Stage{done(grads(5, false, []int{1}, []int{2})), done(grads(6, false, []int{3}))}, grads(6, false, []int{1}, []int{2}, []int{3})},
		{[]impl.Stage{done(grads(5, true, []int{1})), done(grads(0, false, []int{3}, nil))}, grads(0, true, []int{1}, []int{3}, nil)},
		{[]impl.Stage{done(grads(0, false)), done(grads(-4, true, []int{3}))}, grads(-4, true, []int{3})},
		{[]impl.Stage{done(grads(1, false, nil)), done(grads(2, true, []int{1})), done(grads(3, false, []int{2, 3})), done(grads(4, false, []int{4, 5, 6}))}, grads(4, true, nil, []int{1}, []int{2, 3}, []int{4, 5, 6})},
		{[]impl.Stage{done(grads(1, true)), done(grads(2, true)), done(grads(3, true))}, grads(3, true)},
		// It is not asked whether they are right.
		{[]impl.Stage{{}}, impl.Grads{}}, {slices.Repeat([]impl.Stage{done(grads(7, false, make([]int, 40)))}, 6), grads(7, false, slices.Repeat([][]int{make([]int, 40)}, 6)...)},
		{[]impl.Stage{done(grads(math.MaxInt, false, []int{math.MinInt})), done(grads(math.MinInt, false, []int{math.MaxInt}))}, grads(math.MinInt, false, []int{math.MinInt}, []int{math.MaxInt})},
	} {
		p := impl.Pipe{Stages: c.stages}
		if got := impl.ResultOf(p); !alike(got, c.want) {
			t.Errorf("ResultOf(%v) = %v, want %v", p, got, c.want)
		}
		checkPipe(t, "all is done", p, false)
		for s := range p.Stages {
			on := plainOf(p)
			on.Stages[s].Plan = append(on.Stages[s].Plan, impl.Ins{})
			if got := impl.ResultOf(on); !isZeroGrads(got) {
				t.Errorf("ResultOf(%v) = %v, want the zero one", on, got)
			}
			checkPipe(t, "one is left", on, false)
		}
	}
	if got := impl.ResultOf(impl.Pipe{}); !isZeroGrads(got) {
		t.Errorf("ResultOf of the zero one is %v", got)
	}
}

// eachChange calls f after each change of one thing alone in v, which can be set: a number, a flag, or a list that is longer or shorter.
func eachChange(v reflect.Value, name string, f func(name string)) {
	change := func(how string, to reflect.Value) {
		was := reflect.New(v.Type()).Elem()
		was.Set(v)
		v.Set(to)
		f(name + how)
		v.Set(was)
	}
	switch v.Kind() {
	case reflect.Int:
		for _, by := range []int64{1, -1, 256, 1 << 32, math.MinInt} {
			change(" by "+fmt.Sprint(by), reflect.ValueOf(int(v.Int()+by)))
		}
	case reflect.Bool:
		change(" turned", reflect.ValueOf(!v.Bool()))
	case reflect.Struct:
		for i := range v.NumField() {
			eachChange(v.Field(i), name+"."+v.Type().Field(i).Name, f)
		}
	case reflect.Slice:
		zero := reflect.MakeSlice(v.Type(), 1, 1)
		change(" longer", reflect.AppendSlice(copied(v, 0), zero))
		change(" longer ahead", reflect.AppendSlice(zero, v))
		if v.Len() > 0 {
			change(" none", reflect.Zero(v.Type()))
			change(" shorter", copied(v.Slice(0, v.Len()-1), 0))
			change(" shorter ahead", copied(v.Slice(1, v.Len()), 0))
			change(" with one twice", reflect.Append(copied(v, 0), v.Index(v.Len()-1)))
		}
		for i := range v.Len() {
			eachChange(v.Index(i), fmt.Sprintf("%s[%d]", name, i), f)
		}
	}
}

// checkSame says where two pipes are not told to be alike, or to differ.
func checkSame(t *testing.T, name string, a, b impl.Pipe, same bool) {
	t.Helper()
	if like(a, b) != same {
		t.Fatalf("the test holds it to be so, %v: %s: %s and %s", same, name, brief(a), brief(b))
	}
	if there, back := impl.SamePipe(a, b), impl.SamePipe(b, a); there != same || back != same {
		t.Fatalf("%s: SamePipe(%+v, %+v) is %v, and %v", name, a, b, there, back)
	}
}

// emptied has an empty list that is not nil for each list that is nil.
func emptied(p impl.Pipe) impl.Pipe {
	return remade(reflect.ValueOf(p), func(l reflect.Value) reflect.Value {
		return copied(l, 1).Slice(0, l.Len())
	}).Interface().(impl.Pipe)
}

func TestSamePipe(t *testing.T) {
	l := []impl.Pipe{{}, {Stages: make([]impl.Stage, 2)}, {Batch: make([]impl.Pair, 2)}, {Acts: make([]impl.Queue, 2)}, {Backs: make([]impl.Queue, 2)}, laidOut(t, tightAsked(gentleModel(3, 1, 2, 1), []int{2}, impl.DsOne, []bool{true, false}, 2))}
	for range 12 {
		p := l[len(l)-1]
		l = append(l, impl.Pick(p, enabledOf(p)[len(enabledOf(p))-1]))
	}
	eachFullPipe(func(p impl.Pipe) { l = append(l, p) })
	for i, a := range l {
		checkSame(t, "itself", a, a, true)
		checkSame(t, "a copy", a, plainOf(a), true)
		checkSame(t, "one with room", a, roomyOf(a), true)
		checkSame(t, "one with empty lists", a, emptied(a), true)
		for at, b := range l {
			checkSame(t, "two of these", a, b, i == at)
		}
	}
	for _, p := range append(l[:8], fullPipe(2, true), fullPipe(3, false)) {
		changed := plainOf(p)
		eachChange(reflect.ValueOf(&changed).Elem(), "the pipe", func(name string) { checkSame(t, name, changed, p, false) })
		checkSame(t, "changed and changed back", changed, p, true)
	}
	changed := 0
	p := fullPipe(2, false)
	eachChange(reflect.ValueOf(&p).Elem(), "", func(string) { changed++ })
	if changed < 1000 {
		t.Errorf("just %d things were changed", changed)
	}
}

func TestSamePipeOfOtherOrders(t *testing.T) {
	right := fullPipe(4, true)
	for name, change := range map[string]func(p *impl.Pipe){
		"pairs":                func(p *impl.Pipe) { slices.Reverse(p.Batch) },
		"X and T":              func(p *impl.Pipe) { p.Batch[0].X, p.Batch[0].T = p.Batch[0].T, p.Batch[0].X },
		"stages":               func(p *impl.Pipe) { slices.Reverse(p.Stages) },
		"queues":               func(p *impl.Pipe) { slices.Reverse(p.Acts) },
		"the other queues":     func(p *impl.Pipe) { slices.Reverse(p.Backs) },
		"Acts and Backs":       func(p *impl.Pipe) { p.Acts, p.Backs = p.Backs, p.Acts },
		"items":                func(p *impl.Pipe) { slices.Reverse(p.Acts[1].Items) },
		"what is saved":        func(p *impl.Pipe) { slices.Reverse(p.Stages[2].Stash) },
		"Full":                 func(p *impl.Pipe) { slices.Reverse(p.Stages[3].Full) },
		"a plan":               func(p *impl.Pipe) { slices.Reverse(p.Stages[0].Plan) },
		"operations":           func(p *impl.Pipe) { slices.Reverse(p.Stages[3].Ops) },
		"X and D":              func(p *impl.Pipe) { p.Stages[1].X, p.Stages[1].D = p.Stages[1].D, p.Stages[1].X },
		"Y and G":              func(p *impl.Pipe) { p.Stages[1].Y, p.Stages[1].G = p.Stages[1].G, p.Stages[1].Y },
		"Last and Redo":        func(p *impl.Pipe) { p.Stages[1].Last, p.Stages[1].Redo = p.Stages[1].Redo, p.Stages[1].Last },
		"Redo, and none saved": func(p *impl.Pipe) { p.Stages[2].Redo, p.Stages[2].Stash = !p.Stages[2].Redo, nil },
	} {
		p := plainOf(right)
		if change(&p); !like(p, right) {
			checkSame(t, name, p, right, false)
		} else {
			t.Errorf("%s: the test changes nothing", name)
		}
	}
}

// turnOrder says which of the stages that may go on has the turn.
type turnOrder struct {
	name string
	pick func(may []int, p impl.Pipe) int
}

func turnOrders(seed uint64) []turnOrder {
	r := rand.New(rand.NewPCG(seed, 13))
	at := -1
	first := func(may []int, _ impl.Pipe) int { return may[0] }
	last := func(may []int, _ impl.Pipe) int { return may[len(may)-1] }
	return []turnOrder{
		{"the first", first},
		{"the last", last},
		{"any", func(may []int, _ impl.Pipe) int { return may[r.IntN(len(may))] }},
		{"in turns", func(may []int, p impl.Pipe) int {
			for {
				at = (at + 1) % len(p.Stages)
				if slices.Contains(may, at) {
					return at
				}
			}
		}},
		{"the one that has most left", func(may []int, p impl.Pipe) int {
			return slices.MaxFunc(may, func(a, b int) int {
				return len(p.Stages[a].Plan) - p.Stages[a].Pc - len(p.Stages[b].Plan) + p.Stages[b].Pc
			})
		}},
		{"mostly the last", func(may []int, p impl.Pipe) int {
			if r.IntN(5) == 0 {
				return first(may, p)
			}
			return last(may, p)
		}},
	}
}

// checkMoment asks of a pipe on its way what is promised of each, and tells the stages that may go on.
func checkMoment(t *testing.T, p impl.Pipe) []int {
	t.Helper()
	if !impl.PipeOk(p) {
		t.Fatalf("%s is not right", brief(p))
	}
	may := enabledOf(p)
	if impl.Done(p) != (len(may) == 0) {
		t.Fatalf("Done(%s) is %v, these may go on: %v", brief(p), impl.Done(p), may)
	}
	for s, stage := range p.Stages {
		if stage.Pc == len(stage.Plan) && !atLast(p) {
			t.Fatalf("stage %d of %s is done ahead of all others having come to InFlush", s, brief(p))
		}
	}
	next := map[int]impl.Pipe{}
	for _, s := range append([]int{-1, len(p.Stages)}, counting(0, len(p.Stages))...) {
		next[s] = impl.Pick(p, s)
		if !slices.Contains(may, s) && !impl.SamePipe(next[s], p) {
			t.Fatalf("Pick(%s, %d) changes something, though it is not Enabled", brief(p), s)
		}
		if slices.Contains(may, s) && impl.Left(next[s]) != impl.Left(p)-1 {
			t.Fatalf("Pick(%s, %d) leaves %d of %d", brief(p), s, impl.Left(next[s]), impl.Left(p))
		}
	}
	for i, a := range may {
		for _, b := range may[:i] {
			// Neither takes from the other what it needs.
			if !impl.Enabled(next[a], b) || !impl.Enabled(next[b], a) {
				t.Fatalf("of %s: %d and %d may go on, but not one behind the other", brief(p), a, b)
			}
			if ab, ba := impl.Pick(next[a], b), impl.Pick(next[b], a); !impl.SamePipe(ab, ba) {
				t.Fatalf("of %s: %d and then %d make %s, the other way round %s", brief(p), a, b, brief(ab), brief(ba))
			}
		}
	}
	return may
}

// checkRun goes through a whole run in that order.
func checkRun(t *testing.T, a asked, by turnOrder) {
	t.Helper()
	p := laidOut(t, a)
	left := impl.Left(p)
	for n := 0; !impl.Done(p); n++ {
		may := checkMoment(t, p)
		if n >= left {
			t.Fatalf("of %s: after %d turns %d are left", brief(a), n, impl.Left(p))
		}
		if !isZeroGrads(impl.ResultOf(p)) {
			t.Fatalf("ResultOf(%s) is not the zero one, though %d are left", brief(p), impl.Left(p))
		}
		p = impl.Pick(p, by.pick(may, p))
	}
	checkMoment(t, p)
	checkPipe(t, "at the end", p, true)
	if got, want := impl.ResultOf(p), impl.Sequential(a.C.Model, a.B); !alike(got, want) {
		t.Fatalf("of %s, %s: ResultOf is %v, one alone finds %v", brief(a), by.name, got, want)
	}
	for s := range p.Stages {
		if impl.Ledger(p.Stages[s]) != 0 || s > 0 && len(p.Acts[s-1].Items)+len(p.Backs[s-1].Items) > 0 {
			t.Fatalf("of %s: something is held at the end: %s", brief(a), brief(p))
		}
	}
}

// runsOf calls f with many that are admitted: each number of stages and pairs, both plans, Redo of each kind, and Caps of each size.
func runsOf(f func(a asked, n int)) {
	n := 0
	for stages := 1; stages <= impl.MaxStages; stages++ {
		for micro := 1; micro <= impl.MaxMicro; micro++ {
			for _, ds := range bothDs {
				for redos := range 1 << stages {
					n++
					redo := make([]bool, stages)
					for s := range redo {
						redo[s] = redos>>s&1 == 1
					}
					ops := stages + n%(impl.MaxOps-stages+1)
					ways := wantAllCuts(ops, stages)
					cuts := ways[(5*n)%len(ways)]
					// Some of these run over, others do not.
					m := gentleModel(ops, n%5, n%4, 1+n%5)
					if n%2 == 0 {
						m = chainOf(ops, n%5, n%4, 1+n%5)
					}
					a := tightAsked(m, cuts, ds, redo, micro)
					if n%3 == 0 {
						in, out := wantModel(m)
						a.B = gentleBatch(in, out, micro)
					}
					for i := range a.C.Caps {
						a.C.Caps[i] = 1 + (n/3+2*i)%impl.MaxMicro
					}
					f(a, n)
				}
			}
		}
	}
}

func TestWholeRuns(t *testing.T) {
	runsOf(func(a asked, n int) {
		for i, by := range turnOrders(uint64(n)) {
			if i%2 == n%2 {
				checkRun(t, a, by)
			} else {
				checkRun(t, withCaps(a, 1), by)
			}
		}
	})
}

func TestWholeRunsTurnByTurn(t *testing.T) {
	runsOf(func(a asked, n int) {
		if n%4 != 0 {
			return // to hold each turn against the chapter's words takes long
		}
		p := laidOut(t, a)
		l := turnOrders(uint64(n))
		for by := l[n/4%len(l)]; !impl.Done(p); {
			checkPipe(t, "on its way", p, true)
			may := enabledOf(p)
			for s := range p.Stages {
				if !slices.Contains(may, s) {
					checkPick(t, p, s)
				}
			}
			p = checkPick(t, p, by.pick(may, p))
		}
		checkPipe(t, "done", p, true)
		checkStays(t, "done", p)
	})
}

// TestAllOrdersOfTurns comes to each pipe to which any order of turns comes: where two orders come to the same places, the pipes are the same.
func TestAllOrdersOfTurns(t *testing.T) {
	check := func(a asked) int {
		type places [impl.MaxStages]int
		placesOf := func(p impl.Pipe) places {
			var l places
			for s, stage := range p.Stages {
				l[s] = stage.Pc
			}
			return l
		}
		p := laidOut(t, a)
		seen, work := map[places]impl.Pipe{placesOf(p): p}, []impl.Pipe{p}
		ends := 0
		for len(work) > 0 {
			p, work = work[0], work[1:]
			may := checkMoment(t, p)
			if len(may) == 0 {
				ends++
				if got, want := impl.ResultOf(p), impl.Sequential(a.C.Model, a.B); !alike(got, want) {
					t.Fatalf("of %s: ResultOf is %v, one alone finds %v", brief(a), got, want)
				}
			}
			for _, s := range may {
				to := impl.Pick(p, s)
				if was, ok := seen[placesOf(to)]; !ok {
					seen[placesOf(to)] = to
					work = append(work, to)
				} else if !impl.SamePipe(was, to) {
					t.Fatalf("of %s: two orders come to %s and %s", brief(a), brief(was), brief(to))
				}
			}
		}
		if ends != 1 {
			t.Fatalf("of %s: there are %d ends", brief(a), ends)
		}
		return len(seen)
	}
	most := []int{1: 5, 2: 5, 3: 3, 4: 2}
	for stages := 1; stages <= impl.MaxStages; stages++ {
		n := 0
		for micro := 1; micro <= most[stages]; micro++ {
			for _, ds := range bothDs {
				for room := 1; room <= min(micro, 2); room++ {
					for _, first := range []bool{false, true} {
						redo := make([]bool, stages)
						for s := range redo {
							redo[s] = (s%2 == 0) == first
						}
						cuts := counting(1, stages)
						n = max(n, check(withCaps(tightAsked(chainOf(stages, micro, 1, room), cuts, ds, redo, micro), room)))
					}
				}
			}
		}
		if stages > 1 && n < 100 {
			t.Errorf("with %d stages there are just %d pipes", stages, n)
		}
	}
}

// TestTheBarrier goes as far as all but one stage can: none of them is done as long as that one has not come.
func TestTheBarrier(t *testing.T) {
	runsOf(func(a asked, n int) {
		held := n % a.stages()
		p := laidOut(t, a)
		for len(enabledOf(p)) > 0 {
			may := slices.DeleteFunc(enabledOf(p), func(s int) bool { return s == held })
			if len(may) > 0 {
				p = impl.Pick(p, may[n%len(may)])
				continue
			}
			end := len(p.Stages[held].Plan) - 1
			for s, stage := range p.Stages {
				if came := p.Stages[held].Pc >= end; stage.Pc == len(stage.Plan) && !came {
					t.Fatalf("stage %d of %s is done, though %d has not come", s, brief(p), held)
				}
				if atFlush := stage.Pc == len(stage.Plan)-1; atFlush && s != held && impl.Enabled(p, s) {
					t.Fatalf("stage %d of %s could be done, but was not", s, brief(p))
				}
			}
			p = impl.Pick(p, held)
		}
		if !impl.Done(p) {
			t.Fatalf("of %s: %d are left, and none may go on", brief(a), impl.Left(p))
		}
	})
}

// anyPipe is mostly right, but no plan: of any instructions, with anything in the queues.
func anyPipe(r *rand.Rand) impl.Pipe {
	stages, micro := 1+r.IntN(impl.MaxStages), 1+r.IntN(impl.MaxMicro)
	p := impl.Pipe{Batch: batchFor(1+r.IntN(3), 1+r.IntN(3), micro)}
	anyQueue := func() impl.Queue {
		size := 1 + r.IntN(impl.MaxMicro)
		return queue(size, itemsFrom(r.IntN(60), r.IntN(size+1))...)
	}
	for s := range stages {
		m := gentleModel(1+r.IntN(3), r.IntN(5), r.IntN(5), r.IntN(3))
		stage := stageWith(m.Ops, s == stages-1, r.IntN(2) == 0)
		for i := range stage.Stash {
			stage.Stash[i].M = r.IntN(micro + 1)
		}
		stage.Stash = stage.Stash[:r.IntN(4)]
		for _, v := range []*[]int{&stage.X, &stage.Y, &stage.G, &stage.D} {
			if r.IntN(4) == 0 {
				*v = nil
			}
		}
		stage.Plan = nil
		for range r.IntN(4) {
			stage.Plan = append(stage.Plan, impl.Ins{Kind: 1 + r.IntN(8), M: r.IntN(micro)})
		}
		stage.Pc = r.IntN(len(stage.Plan) + 1)
		if in, out := wantModel(m); s == 0 && r.IntN(4) > 0 {
			p.Batch = batchFor(in, out, micro)
		}
		p.Stages = append(p.Stages, stage)
		if s > 0 {
			p.Acts, p.Backs = append(p.Acts, anyQueue()), append(p.Backs, anyQueue())
		}
	}
	spoilPipe(r, &p)
	return plainOf(p)
}

// spoilPipe makes some pipes be not right.
func spoilPipe(r *rand.Rand, p *impl.Pipe) {
	s := r.IntN(len(p.Stages))
	switch r.IntN(30) {
	case 0:
		p.Stages[s].Last = !p.Stages[s].Last
	case 1:
		p.Stages[s].Pc += r.IntN(9) - 4
	case 2:
		p.Stages[s].Plan = append(p.Stages[s].Plan, impl.Ins{Kind: r.IntN(11) - 1, M: r.IntN(8) - 1})
	case 3:
		p.Acts = append(p.Acts, queue(1))
	case 4:
		p.Backs = p.Backs[:len(p.Backs)/2]
	case 5:
		p.Batch[0].T = nil
	case 6:
		p.Stages[s].Y = make([]int, r.IntN(8))
	case 7:
		p.Stages[s].Sum.Rows = nil
	}
}

func TestPipesWithAnythingInThem(t *testing.T) {
	r := rand.New(rand.NewPCG(38, 13))
	stayed, went, wrong := map[int]int{}, map[int]int{}, 0
	for range 15000 {
		p := anyPipe(r)
		checkPipe(t, "any", p, wantPipeOk(p))
		if !wantPipeOk(p) {
			wrong++
		}
		for s := -1; s <= len(p.Stages); s++ {
			if kind := wantNext(p, s).Kind; like(checkPick(t, p, s), p) {
				stayed[kind]++
			} else {
				went[kind]++
			}
		}
	}
	for kind := impl.InRecv; kind <= impl.InFlush; kind++ {
		if stayed[kind] < 100 || went[kind] < 100 {
			t.Errorf("of kind %d %d stayed, %d went on: the test asks too little of it", kind, stayed[kind], went[kind])
		}
	}
	if wrong < 1000 {
		t.Errorf("just %d were not right", wrong)
	}
}

// checkPipeMemory says where what is asked of a pipe writes into what is handed in, or tells what is not new memory.
func checkPipeMemory(t *testing.T, of impl.Pipe) {
	t.Helper()
	p := roomyOf(of)
	was := wholeOf(p)
	things := []any{p}
	for range 2 {
		impl.PipeOk(p)
		impl.Left(p)
		impl.Done(p)
		impl.SamePipe(p, of)
		for s := -1; s <= len(p.Stages); s++ {
			impl.Next(p, s)
			impl.Enabled(p, s)
			// The same whatever stands in the room behind the lists.
			got := impl.Pick(p, s)
			if want := impl.Pick(of, s); !like(got, want) {
				t.Fatalf("Pick(%s, %d) with room behind the lists is %s, want %s", brief(of), s, brief(got), brief(want))
			}
			things = append(things, got)
		}
		things = append(things, impl.ResultOf(p))
	}
	if !reflect.DeepEqual(wholeOf(p), was) {
		t.Fatalf("asked of a pipe: wrote into what was handed in: %s, was %s", brief(wholeOf(p)), brief(was))
	}
	if !apart(things...) {
		t.Fatalf("of %s: an answer shares memory", brief(of))
	}
}

func TestPipesAreNewMemory(t *testing.T) {
	runsOf(func(a asked, n int) {
		given := roomyOf(a)
		was := wholeOf(given)
		one, two := impl.PipeNew(given.C, given.B), impl.PipeNew(given.C, given.B)
		if !reflect.DeepEqual(wholeOf(given), was) {
			t.Fatalf("PipeNew wrote into what was handed in: %s, was %s", brief(wholeOf(given)), brief(was))
		}
		if !apart(given, one, two) {
			t.Fatalf("PipeNew(%s) shares memory", brief(a))
		}
		if n%3 != 0 {
			return
		}
		l := turnOrders(uint64(n))
		for by := l[n/3%len(l)]; !impl.Done(one); {
			checkPipeMemory(t, one)
			one = impl.Pick(one, by.pick(enabledOf(one), one))
		}
		checkPipeMemory(t, one)
	})
	checkPipeMemory(t, impl.Pipe{})
	eachFullPipe(func(right impl.Pipe) {
		checkPipeMemory(t, right)
		n := 0
		eachPipeFault(right, func(_ string, p impl.Pipe) {
			if n++; n%29 == 0 {
				checkPipeMemory(t, p)
			}
		})
	})
	r := rand.New(rand.NewPCG(13, 39))
	for range 1000 {
		checkPipeMemory(t, anyPipe(r))
	}
}

func TestAnswersOfPipesDoNotChange(t *testing.T) {
	runsOf(func(a asked, n int) {
		if n%7 != 0 {
			return
		}
		given := roomyOf(a)
		l := []impl.Pipe{impl.PipeNew(given.C, given.B)}
		orders := turnOrders(uint64(n))
		for by := orders[n/7%len(orders)]; !impl.Done(l[len(l)-1]); {
			p := l[len(l)-1]
			l = append(l, impl.Pick(p, by.pick(enabledOf(p), p)))
		}
		end := l[len(l)-1]
		l = append(l, impl.Pick(end, 0), impl.Pick(end, -1))
		result, sum := impl.ResultOf(end), impl.Sequential(a.C.Model, a.B)
		was := make([]impl.Pipe, len(l))
		for i, p := range l {
			was[i] = plainOf(p)
		}
		overwriteAll(reflect.ValueOf(given))
		for i, p := range l {
			// Each one is written to when those that were made of it are there.
			if !like(p, was[i]) {
				t.Fatalf("of %s: pipe %d became %s, was %s", brief(a), i, brief(p), brief(was[i]))
			}
			overwriteAll(reflect.ValueOf(p))
		}
		if !alike(result, sum) {
			t.Fatalf("of %s: ResultOf became %s, was %s", brief(a), brief(result), brief(sum))
		}
	})
}

// pipeOfOneMemory is a right pipe whose lists are all of that row; the flags say which stages are on their way back.
func pipeOfOneMemory(row []int, flags int) impl.Pipe {
	o := op(impl.OpBias, 2, row[:2]...)
	plan := planOf("recv0 recvg0 fwd1 send1 bwd0 sendg0 flush0")
	l := rows(row[:2], row[1:])
	q := queue(3, item(0, row[:2]...), item(1, row[1:]...))
	s := impl.Stage{Plan: plan, Ops: []impl.Op{o}, Stash: []impl.Saved{{Rows: l}}, Full: l, X: row[:2], Y: row[:2], G: row[1:], D: row[1:], Sum: impl.Grads{Rows: l[:1]}}
	p := impl.Pipe{Batch: []impl.Pair{pair(row[:2], row[1:]), pair(row[:2], row[:2])}, Stages: []impl.Stage{s, s, s}, Acts: []impl.Queue{q, q}, Backs: []impl.Queue{q, q}}
	p.Stages[2].Last = true
	for s := range p.Stages {
		p.Stages[s].Pc = flags >> s & 1 * 4
	}
	return p
}

func TestPipesWhoseListsAreOneMemory(t *testing.T) {
	row := []int{2 * one, -3 * one, one}
	for flags := range 1 << 3 {
		p := pipeOfOneMemory(row, flags)
		plan := p.Stages[0].Plan
		far := plainOf(p)
		for range len(plan) {
			for s := range p.Stages {
				got, want := checkPick(t, p, s), checkPick(t, far, s)
				if !like(got, want) || !like(p, far) || !apart(row, got) {
					t.Fatalf("Pick(%s, %d) = %s, want %s", brief(p), s, brief(got), brief(want))
				}
			}
			for s := range p.Stages {
				p.Stages[s].Pc = (p.Stages[s].Pc + 1) % len(plan)
				far.Stages[s].Pc = p.Stages[s].Pc
			}
		}
	}
}

func TestPipesOfLongLists(t *testing.T) {
	const many = 20000
	right := fullPipe(3, true)
	for name, change := range map[string]func(p *impl.Pipe){
		"stages":    func(p *impl.Pipe) { p.Stages = slices.Repeat(p.Stages[:2], many/100) },
		"pairs":     func(p *impl.Pipe) { p.Batch = slices.Repeat(p.Batch, many) },
		"queues":    func(p *impl.Pipe) { p.Acts, p.Backs = slices.Repeat(p.Acts, many), slices.Repeat(p.Backs, many) },
		"items":     func(p *impl.Pipe) { p.Acts[0].Items = slices.Repeat(p.Acts[0].Items, many) },
		"other Cap": func(p *impl.Pipe) { p.Backs[0].Cap, p.Backs[0].Items = many, slices.Repeat(p.Acts[0].Items, many) },
		"wide":      func(p *impl.Pipe) { p.Batch[0].X = make([]int, many) },
	} {
		p := plainOf(right)
		change(&p)
		checkPipe(t, name, p, false)
		if got := impl.Pick(p, 0); impl.Enabled(p, 0) || !impl.SamePipe(got, p) {
			t.Errorf("a pipe of many %s goes on", name)
		}
	}
	// A plan may be as long as it is.
	p := plainPipe(2)
	p.Stages[0].Plan = slices.Repeat(planOf("fwd0 bwd1"), many)
	p.Stages[0].Pc = many
	if got := checkMay(t, "a long plan", p, 0, true); impl.Left(got) != many {
		t.Errorf("%d are left", impl.Left(got))
	}
}
