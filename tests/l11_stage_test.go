package tests

import (
	"cmp"
	"fmt"
	"math"
	"math/rand/v2"
	"reflect"
	"slices"
	"testing"

	"loop.example/g01407/impl"
)

// remade is a copy of a thing in which each list is replaced, from the outer ones to the inner ones.
func remade(v reflect.Value, replace func(l reflect.Value) reflect.Value) reflect.Value {
	made := reflect.New(v.Type()).Elem()
	made.Set(v)
	switch v.Kind() {
	case reflect.Struct:
		for i := range v.NumField() {
			made.Field(i).Set(remade(v.Field(i), replace))
		}
	case reflect.Slice:
		l := replace(v)
		for i := range innerOf(l) {
			l.Index(i).Set(remade(l.Index(i), replace))
		}
		made.Set(l)
	}
	return made
}

// innerOf is how many things of a list may hold lists: none, where they are numbers.
func innerOf(l reflect.Value) int {
	if l.Type().Elem().Kind() == reflect.Int {
		return 0
	}
	return l.Len()
}

// copied is a list of its own with what stands in l, and so many marks of room behind it.
func copied(l reflect.Value, room int) reflect.Value {
	made := reflect.MakeSlice(l.Type(), l.Len()+room, l.Len()+room)
	reflect.Copy(made, l)
	for i := l.Len(); i < made.Len(); i++ {
		made.Index(i).Set(markOf(l.Type().Elem()))
	}
	return made
}

// markOf is a thing in which no number, flag or list is a zero one.
func markOf(of reflect.Type) reflect.Value {
	mark := reflect.New(of).Elem()
	switch of.Kind() {
	case reflect.Int:
		mark.SetInt(71)
	case reflect.Bool:
		mark.SetBool(true)
	case reflect.Struct:
		for i := range of.NumField() {
			mark.Field(i).Set(markOf(of.Field(i).Type))
		}
	case reflect.Slice:
		mark.Set(reflect.Append(mark, markOf(of.Elem())))
	}
	return mark
}

// plainOf is a copy without room; it has nil for each empty list.
func plainOf[T any](v T) T {
	return remade(reflect.ValueOf(v), func(l reflect.Value) reflect.Value {
		if l.Len() == 0 {
			return reflect.Zero(l.Type())
		}
		return copied(l, 0)
	}).Interface().(T)
}

// roomyOf is a copy that has room behind each list, in which marks stand.
func roomyOf[T any](v T) T {
	return remade(reflect.ValueOf(v), func(l reflect.Value) reflect.Value {
		return copied(l, 3).Slice(0, l.Len())
	}).Interface().(T)
}

// wholeOf is a copy in which each list goes on to the end of its room.
func wholeOf[T any](v T) T {
	return remade(reflect.ValueOf(v), func(l reflect.Value) reflect.Value {
		return copied(l.Slice(0, l.Cap()), 0)
	}).Interface().(T)
}

// like holds each field against the other; an empty list and nil are the same.
func like[T any](a, b T) bool { return likeValues(reflect.ValueOf(a), reflect.ValueOf(b)) }

func likeValues(a, b reflect.Value) bool {
	switch a.Kind() {
	case reflect.Struct:
		for i := range a.NumField() {
			if !likeValues(a.Field(i), b.Field(i)) {
				return false
			}
		}
		return true
	case reflect.Slice:
		if a.Len() != b.Len() {
			return false
		}
		for i := range a.Len() {
			if !likeValues(a.Index(i), b.Index(i)) {
				return false
			}
		}
		return true
	}
	return a.Equal(b)
}

// span is the memory of a list, to the end of its room.
type span struct{ from, to uintptr }

func spansOf(v reflect.Value) []span {
	var l []span
	switch v.Kind() {
	case reflect.Struct:
		for i := range v.NumField() {
			l = append(l, spansOf(v.Field(i))...)
		}
	case reflect.Slice:
		whole := v.Slice(0, v.Cap())
		if size := uintptr(whole.Len()) * v.Type().Elem().Size(); size > 0 {
			l = append(l, span{whole.Pointer(), whole.Pointer() + size})
		}
		for i := range innerOf(whole) {
			l = append(l, spansOf(whole.Index(i))...)
		}
	}
	return l
}

// apart says whether no two lists of what is handed in share memory, also not behind their ends.
func apart(things ...any) bool {
	var l []span
	for _, v := range things {
		l = append(l, spansOf(reflect.ValueOf(v))...)
	}
	slices.SortFunc(l, func(a, b span) int { return cmp.Compare(a.from, b.from) })
	for i := range l {
		if i > 0 && l[i].from < l[i-1].to {
			return false
		}
	}
	return true
}

func saved(m int, l ...[]int) impl.Saved { return impl.Saved{M: m, Rows: rows(l...)} }

// endsOf are how many numbers go into some operations and come out of them, also where they are no right model.
func endsOf(ops []impl.Op) (in, out int) {
	if len(ops) == 0 {
		return 1, 1
	}
	limit := func(n int) int { return max(1, min(n, impl.MaxDim)) }
	return limit(ops[0].In), limit(ops[len(ops)-1].Out)
}

// savedRows are right rows of what goes into each operation and comes out of the last one, though not what Inputs would make.
func savedRows(ops []impl.Op, begin int) []impl.Row {
	in, _ := endsOf(ops)
	l := rows(rightRow(in, begin))
	for i := range ops {
		_, out := endsOf(ops[i : i+1])
		l = append(l, impl.Row{V: rightRow(out, begin+3*i+1)})
	}
	return l
}

// stageWith is a stage in which something stands in each field, and which is right where its operations are; three are saved: 2, -7 and 300.
func stageWith(ops []impl.Op, last, redo bool) impl.Stage {
	in, out := endsOf(ops)
	s := impl.Stage{Pc: 2, Plan: planOf("fwd0 send7 bwd300 flush0"), Ops: ops, Last: last, Redo: redo, Full: savedRows(ops, 5), X: rightRow(in, 1), Y: rightRow(out, 2), G: rightRow(out, 3), D: rightRow(in, 4)}
	for i, m := range []int{2, -7, 300} {
		l := savedRows(ops, i)
		if redo {
			l = l[:1]
		}
		s.Stash = append(s.Stash, impl.Saved{M: m, Rows: l})
	}
	for i, o := range ops {
		s.Sum.Rows = append(s.Sum.Rows, impl.Row{V: slices.Repeat([]int{i*one - 5}, len(o.P))})
	}
	s.Sum.Loss = 3 * one
	return plainOf(s)
}

// stageModels are right models: of one operation of each kind, and of several, with as many numbers in as out and otherwise.
func stageModels() []impl.Model {
	var l []impl.Model
	for _, kind := range opKinds {
		l = append(l, model(filled(kind, 1, 1, 2*one)), model(filled(kind, impl.MaxDim, impl.MaxDim, one/3)))
	}
	l = append(l, model(filled(impl.OpDense, 2, 5, one)), model(filled(impl.OpDense, 4, 1, -one)), model(op(impl.OpScale, 1, 2*one), op(impl.OpBias, 1, one)))
	for count := 2; count <= impl.MaxOps; count++ {
		l = append(l, chainOf(count, count%5, 1, 2), gentleModel(count, 0, 2, 5), gentleModel(count, 3, 3, 1))
	}
	return l
}

// eachStageWith calls f with right stages of each model, the last one and another one, with Redo and without.
func eachStageWith(f func(s impl.Stage)) {
	for _, m := range stageModels() {
		for flags := range 4 {
			f(stageWith(m.Ops, flags&1 != 0, flags&2 != 0))
		}
	}
}

func fits(v []int, size int) bool {
	return len(v) == size && size >= 1 && size <= impl.MaxDim && !slices.ContainsFunc(v, func(n int) bool { return n > most || n < -most })
}

// wantStageOk is what the chapter says of a stage.
func wantStageOk(s impl.Stage) bool {
	in, out := wantModel(impl.Model{Ops: s.Ops})
	right := in > 0 && s.Pc >= 0 && s.Pc <= len(s.Plan) && len(s.Sum.Rows) == len(s.Ops)
	for i := 0; right && i < len(s.Ops); i++ {
		right = len(s.Sum.Rows[i].V) == len(s.Ops[i].P)
	}
	for i := 0; right && i < len(s.Stash); i++ {
		l := s.Stash[i].Rows
		right = len(l) == len(s.Ops)+1 && !s.Redo || len(l) == 1 && s.Redo
		for at, r := range l {
			right = right && (at == 0 && fits(r.V, in) || at > 0 && fits(r.V, s.Ops[at-1].Out))
		}
	}
	return right && (len(s.X) == 0 || fits(s.X, in)) && (len(s.D) == 0 || fits(s.D, in)) && (len(s.Y) == 0 || fits(s.Y, out)) && (len(s.G) == 0 || fits(s.G, out))
}

func wantFind(l []impl.Saved, m int) int {
	return slices.IndexFunc(l, func(x impl.Saved) bool { return x.M == m })
}

func wantLedger(s impl.Stage) int {
	l := slices.Concat(rows(s.X, s.Y, s.G, s.D), s.Full)
	for _, x := range s.Stash {
		l = append(l, x.Rows...)
	}
	n := 0
	for _, r := range l {
		n += len(r.V)
	}
	return n
}

func wantFwd(s impl.Stage, m int, x, t []int) impl.Stage {
	w := plainOf(s)
	in, out := wantModel(impl.Model{Ops: s.Ops})
	if !wantStageOk(s) || !fits(x, in) || wantFind(s.Stash, m) >= 0 || s.Last && !fits(t, out) {
		return w
	}
	l, over := wantInputs(impl.Model{Ops: s.Ops}, x)
	end := l[len(s.Ops)].V
	w.X, w.Sum.Sat = nil, s.Sum.Sat || over
	if s.Last {
		loss, outLoss := wantLoss(end, t)
		g := wantSum(grads(s.Sum.Loss, w.Sum.Sat), grads(loss, outLoss))
		w.Sum.Loss, w.Sum.Sat = g.Loss, g.Sat
	} else {
		w.Y = end
	}
	if s.Redo {
		l = l[:1]
	}
	w.Stash = append(w.Stash, impl.Saved{M: m, Rows: l})
	return plainOf(w)
}

func wantRedo(s impl.Stage, m int) impl.Stage {
	w, at := plainOf(s), wantFind(s.Stash, m)
	if wantStageOk(s) && at >= 0 {
		w.Full, _ = wantInputs(impl.Model{Ops: s.Ops}, s.Stash[at].Rows[0].V)
	}
	return plainOf(w)
}

func wantBwd(s impl.Stage, m int, t []int) impl.Stage {
	w, at := plainOf(s), wantFind(s.Stash, m)
	if !wantStageOk(s) || at < 0 {
		return w
	}
	into := s.Stash[at].Rows
	if s.Redo {
		into = s.Full
	}
	right := len(into) == len(s.Ops)+1
	for i := 0; right && i < len(s.Ops); i++ {
		right = fits(into[i].V, s.Ops[i].In)
	}
	if !right {
		return w
	}
	d, over := s.G, false
	if s.Last {
		d, over = impl.VecSub(into[len(s.Ops)].V, t)
	}
	if !fits(d, s.Ops[len(s.Ops)-1].Out) {
		return w
	}
	found := impl.Grads{Rows: make([]impl.Row, len(s.Ops))}
	for i, o := range slices.Backward(s.Ops) {
		on, g, out := wantBack(o, into[i].V, d)
		d, found.Rows[i].V, over = on, g, over || out
	}
	found.Sat = over
	w.Sum, w.D, w.G, w.Full = wantSum(s.Sum, found), d, nil, nil
	w.Stash = slices.Delete(w.Stash, at, at+1)
	return plainOf(w)
}

// checkFwd, checkRedo and checkBwd say where a stage does not become what the chapter says, and tell what it becomes.
func checkFwd(t *testing.T, s impl.Stage, m int, x, to []int) impl.Stage {
	t.Helper()
	got, want := impl.StageFwd(s, m, x, to), wantFwd(s, m, x, to)
	if !like(got, want) {
		t.Fatalf("StageFwd(%s, %d, %s, %s) = %s, want %s", brief(s), m, brief(x), brief(to), brief(got), brief(want))
	}
	return got
}

func checkRedo(t *testing.T, s impl.Stage, m int) impl.Stage {
	t.Helper()
	got, want := impl.StageRedo(s, m), wantRedo(s, m)
	if !like(got, want) {
		t.Fatalf("StageRedo(%s, %d) = %s, want %s", brief(s), m, brief(got), brief(want))
	}
	return got
}

func checkBwd(t *testing.T, s impl.Stage, m int, to []int) impl.Stage {
	t.Helper()
	got, want := impl.StageBwd(s, m, to), wantBwd(s, m, to)
	if !like(got, want) {
		t.Fatalf("StageBwd(%s, %d, %s) = %s, want %s", brief(s), m, brief(to), brief(got), brief(want))
	}
	return got
}

// checkStage holds a stage, whose name tells what is in it, against one that a hand made.
func checkStage(t *testing.T, name string, got, want impl.Stage) {
	t.Helper()
	if !like(got, want) {
		t.Errorf("%s: %+v, want %+v", name, got, want)
	}
}

// checkStageStays says where a stage does not stay as it is, field by field.
func checkStageStays(t *testing.T, name string, got, s impl.Stage) {
	t.Helper()
	if !like(got, s) {
		t.Fatalf("%s: %s did not stay as it is: %s", name, brief(s), brief(got))
	}
}

// checkAsked says where a stage, right just where right is true, is answered otherwise.
func checkAsked(t *testing.T, name string, s impl.Stage, right bool) {
	t.Helper()
	if wantStageOk(s) != right {
		t.Fatalf("the test holds it to be right, %v: %s: %s", right, name, brief(s))
	}
	if got := impl.StageOk(s); got != right {
		t.Errorf("%s: StageOk(%s) is %v", name, brief(s), got)
	}
	if got, want := impl.Ledger(s), wantLedger(s); got != want {
		t.Errorf("%s: Ledger(%s) = %d, want %d", name, brief(s), got, want)
	}
}

// eachFault calls f with stages of which one thing alone is not right, each made of a right one.
func eachFault(right impl.Stage, f func(name string, wrong impl.Stage)) {
	with := func(name string, change func(s *impl.Stage)) {
		s := plainOf(right)
		change(&s)
		f(name, s)
	}
	for _, pc := range []int{-1, -2, math.MinInt, len(right.Plan) + 1, len(right.Plan) + 2, 256, math.MaxInt} {
		with("Pc", func(s *impl.Stage) { s.Pc = pc })
	}
	with("Pc of no plan", func(s *impl.Stage) { s.Pc, s.Plan = 1, nil })
	eachSumFault(right, with)
	for i := range right.Stash {
		eachSavedFault(right, i, with)
	}
	in, out := endsOf(right.Ops)
	for _, v := range wrongRowsFor(in) {
		if len(v) > 0 {
			with("X", func(s *impl.Stage) { s.X = v })
			with("D", func(s *impl.Stage) { s.D = v })
		}
	}
	for _, v := range wrongRowsFor(out) {
		if len(v) > 0 {
			with("Y", func(s *impl.Stage) { s.Y = v })
			with("G", func(s *impl.Stage) { s.G = v })
		}
	}
	eachOpFault(right, with)
}

func eachSumFault(right impl.Stage, with func(name string, change func(s *impl.Stage))) {
	with("no rows in Sum", func(s *impl.Stage) { s.Sum.Rows = nil })
	with("a row less in Sum", func(s *impl.Stage) { s.Sum.Rows = s.Sum.Rows[1:] })
	with("a row less at the end of Sum", func(s *impl.Stage) { s.Sum.Rows = s.Sum.Rows[:len(s.Sum.Rows)-1] })
	with("an empty row more in Sum", func(s *impl.Stage) { s.Sum.Rows = append(s.Sum.Rows, impl.Row{}) })
	with("a row more in Sum", func(s *impl.Stage) { s.Sum.Rows = append(s.Sum.Rows, s.Sum.Rows[0]) })
	for i, r := range right.Sum.Rows {
		if len(r.V) > 0 {
			with("a number less in Sum", func(s *impl.Stage) { s.Sum.Rows[i].V = s.Sum.Rows[i].V[1:] })
		}
		with("a number more in Sum", func(s *impl.Stage) { s.Sum.Rows[i].V = append(s.Sum.Rows[i].V, 0) })
	}
}

func eachSavedFault(right impl.Stage, i int, with func(name string, change func(s *impl.Stage))) {
	with("nothing saved", func(s *impl.Stage) { s.Stash[i].Rows = nil })
	with("an empty list saved", func(s *impl.Stage) { s.Stash[i].Rows = []impl.Row{} })
	with("a row more saved", func(s *impl.Stage) { s.Stash[i].Rows = append(s.Stash[i].Rows, right.Stash[i].Rows[0]) })
	with("an empty row more saved", func(s *impl.Stage) { s.Stash[i].Rows = append(s.Stash[i].Rows, impl.Row{}) })
	with("Redo is another one", func(s *impl.Stage) { s.Redo = !s.Redo })
	if right.Redo {
		with("all rows saved though Redo is set", func(s *impl.Stage) { s.Stash[i].Rows = savedRows(s.Ops, 1) })
	} else {
		with("a row less saved", func(s *impl.Stage) { s.Stash[i].Rows = s.Stash[i].Rows[:len(s.Ops)] })
		with("the first row alone saved", func(s *impl.Stage) { s.Stash[i].Rows = s.Stash[i].Rows[:1] })
	}
	for at, r := range right.Stash[i].Rows {
		for _, v := range fewWrongRows(len(r.V)) {
			with(fmt.Sprintf("row %d of %d that are saved", at, i), func(s *impl.Stage) { s.Stash[i].Rows[at].V = v })
		}
	}
}

func eachOpFault(right impl.Stage, with func(name string, change func(s *impl.Stage))) {
	with("no operations", func(s *impl.Stage) { s.Ops = nil })
	with("no operations, and nothing else but a plan", func(s *impl.Stage) { *s = impl.Stage{Plan: s.Plan, Pc: s.Pc, Last: s.Last, Redo: s.Redo} })
	for i, o := range right.Ops {
		for _, kind := range []int{0, 6, -1, math.MaxInt} {
			with("kind", func(s *impl.Stage) { s.Ops[i].Kind = kind })
		}
		for at := range o.P {
			with("a number of an operation", func(s *impl.Stage) { s.Ops[i].P[at] = outOfRange[at%len(outOfRange)] })
		}
		with("a number more in an operation, and in Sum", func(s *impl.Stage) {
			s.Ops[i].P = append(s.Ops[i].P, 0)
			s.Sum.Rows[i].V = append(s.Sum.Rows[i].V, 0)
		})
	}
}

// eachVariant calls f with stages that are right too: the chapter asks nothing of what is changed.
func eachVariant(right impl.Stage, f func(name string, s impl.Stage)) {
	with := func(name string, change func(s *impl.Stage)) {
		s := plainOf(right)
		change(&s)
		f(name, s)
	}
	with("as it is", func(s *impl.Stage) {})
	for pc := range len(right.Plan) + 1 {
		with("Pc", func(s *impl.Stage) { s.Pc = pc })
	}
	with("no plan", func(s *impl.Stage) { s.Pc, s.Plan = 0, nil })
	with("a plan that no stage has", func(s *impl.Stage) { s.Plan = insOf(0, -1, 9, math.MaxInt, 8, 8) })
	with("no X", func(s *impl.Stage) { s.X = nil })
	with("no Y", func(s *impl.Stage) { s.Y = []int{} })
	with("no G", func(s *impl.Stage) { s.G = nil })
	with("no D", func(s *impl.Stage) { s.D = []int{} })
	with("none saved", func(s *impl.Stage) { s.Stash = nil })
	with("nothing of all these", func(s *impl.Stage) { s.X, s.Y, s.G, s.D, s.Stash, s.Full = nil, nil, nil, nil, nil, nil })
	for _, m := range []int{2, 300, -1, 5, math.MinInt, math.MaxInt} {
		with("M that is saved", func(s *impl.Stage) { s.Stash[1].M = m })
	}
	for i, r := range right.Sum.Rows {
		if len(r.V) > 0 {
			with("a number of Sum that is out of the range", func(s *impl.Stage) { s.Sum.Rows[i].V[0] = math.MaxInt })
		}
	}
	for _, n := range []int{0, -1, most, -most, most + 1, math.MaxInt, math.MinInt} {
		with("Loss", func(s *impl.Stage) { s.Sum.Loss = n })
	}
	with("Sat", func(s *impl.Stage) { s.Sum.Sat = true })
	for _, l := range wrongFulls(right.Ops) {
		with("Full", func(s *impl.Stage) { s.Full = l })
	}
	with("Last", func(s *impl.Stage) { s.Last = !s.Last })
}

// wrongFulls are lists with which no stage of these operations can go back, whatever it begins with.
func wrongFulls(ops []impl.Op) [][]impl.Row {
	right := savedRows(ops, 3)
	l := [][]impl.Row{nil, {}, {{}}, right[:1], right[1:], right[:len(ops)], append(cloneRows(right), impl.Row{}), append(cloneRows(right), right[0]), make([]impl.Row, len(ops)+1)}
	for i, o := range ops {
		for _, v := range fewWrongRows(o.In) {
			wrong := cloneRows(right)
			wrong[i].V = v
			l = append(l, wrong)
		}
	}
	return l
}

// fewWrongRows are some of wrongRowsFor: of each other length that is near, and with a number out of the range at each place.
func fewWrongRows(size int) [][]int {
	l := [][]int{nil, make([]int, size-1), make([]int, size+1), make([]int, impl.MaxDim+1), rightRow(size%impl.MaxDim+1, size)}
	for at := range size {
		row := rightRow(size, at)
		row[at] = outOfRange[(3*at+size)%len(outOfRange)]
		l = append(l, row)
	}
	return l
}

func TestStageNew(t *testing.T) {
	plan := planOf("recv0 fwd0 redo0 bwd0 flush0")
	for _, m := range stageModels() {
		for flags := range 4 {
			last, redo := flags&1 != 0, flags&2 != 0
			for _, l := range [][]impl.Ins{plan, nil, {}, plan[:3], insOf(9, -4), slices.Repeat(plan, 50)} {
				got := impl.StageNew(m.Ops, l, last, redo)
				checkStage(t, "a new stage", got, impl.Stage{Plan: l, Ops: m.Ops, Last: last, Redo: redo, Sum: noughts(m)})
				checkAsked(t, "a new stage", got, true)
				if n := impl.Ledger(got); n != 0 {
					t.Errorf("a new stage of %v holds %d numbers", m, n)
				}
			}
		}
	}
	eachModel(func(m impl.Model) {
		if got := impl.StageNew(m.Ops, plan, true, false); !like(got, impl.Stage{Plan: plan, Ops: m.Ops, Last: true, Sum: noughts(m)}) || !impl.StageOk(got) {
			t.Fatalf("StageNew of %s is %s", brief(m), brief(got))
		}
	})
}

func TestStageNewOfNoRightModelIsTheZeroOne(t *testing.T) {
	eachWrongModel(func(m impl.Model, _ impl.Pair) {
		for flags := range 4 {
			got := impl.StageNew(m.Ops, planOf("fwd0 bwd0 flush0"), flags&1 != 0, flags&2 != 0)
			if !like(got, impl.Stage{}) || impl.StageOk(got) || impl.Ledger(got) != 0 {
				t.Fatalf("StageNew of %s is %s", brief(m), brief(got))
			}
		}
	})
}

func TestStageOk(t *testing.T) {
	if impl.StageOk(impl.Stage{}) {
		t.Error("the zero stage is right")
	}
	eachStageWith(func(right impl.Stage) {
		eachVariant(right, func(name string, s impl.Stage) { checkAsked(t, name, s, true) })
		eachFault(right, func(name string, s impl.Stage) { checkAsked(t, name, s, false) })
		// A new stage has empty lists, and is not right for the same reasons.
		for _, plan := range [][]impl.Ins{nil, right.Plan} {
			s := impl.StageNew(right.Ops, plan, right.Last, right.Redo)
			eachVariantOfPc(s, func(s impl.Stage, ok bool) { checkAsked(t, "Pc of a new one", s, ok) })
		}
	})
}

func eachVariantOfPc(s impl.Stage, f func(s impl.Stage, ok bool)) {
	for _, pc := range []int{math.MinInt, -1, 0, len(s.Plan), len(s.Plan) + 1, math.MaxInt} {
		s.Pc = pc
		f(s, pc == 0 || pc == len(s.Plan))
	}
}

func TestStageOkOfOperationsThatAreNoRightModel(t *testing.T) {
	eachWrongModel(func(m impl.Model, _ impl.Pair) {
		if len(m.Ops) > 100 {
			return
		}
		for flags := range 4 {
			last, redo := flags&1 != 0, flags&2 != 0
			checkAsked(t, "no right model", stageWith(m.Ops, last, redo), false)
			checkAsked(t, "no right model, with empty lists", impl.Stage{Ops: m.Ops, Last: last, Redo: redo, Sum: impl.Grads{Rows: stageWith(m.Ops, last, redo).Sum.Rows}}, false)
		}
	})
}

func TestLedger(t *testing.T) {
	r := rows
	for _, c := range []struct {
		s    impl.Stage
		want int
	}{
		{impl.Stage{}, 0},
		{impl.Stage{X: []int{1, 2}}, 2}, {impl.Stage{Y: []int{1, 2, 3}}, 3}, {impl.Stage{G: []int{1}}, 1}, {impl.Stage{D: []int{1, 2, 3, 4}}, 4}, {impl.Stage{X: []int{1}, Y: []int{1, 1}, G: []int{1, 1, 1, 1}, D: make([]int, 8)}, 15},
		{impl.Stage{Full: r([]int{1, 2}, nil, []int{3})}, 3}, {impl.Stage{Stash: []impl.Saved{{M: 9}, saved(3, []int{1, 2}, []int{3, 4, 5}), saved(3, []int{6})}}, 6}, {impl.Stage{Full: r(make([]int, 100)), Stash: []impl.Saved{saved(0, make([]int, 1000), make([]int, 10)), saved(-1, []int{most + 1})}, X: []int{math.MaxInt}}, 1112},
		// What it plans, has learnt and does is none of it.
		{impl.Stage{Pc: 4, Plan: planOf("fwd0 bwd0 flush0"), Ops: []impl.Op{filled(impl.OpDense, 2, 3, one)}, Sum: grads(7, true, []int{1, 2, 3, 4, 5, 6})}, 0},
		// What stands behind the end of a list is no part of it.
		{impl.Stage{X: []int{1, 2, 3}[:1], Full: r([]int{1}, []int{2})[:1], Stash: []impl.Saved{saved(0, []int{1}), saved(1, []int{1})}[:1]}, 3},
	} {
		if got := impl.Ledger(c.s); got != c.want || wantLedger(c.s) != c.want {
			t.Errorf("Ledger(%v) = %d, want %d", c.s, got, c.want)
		}
	}
}

// twoOps is a stage whose operations are one that doubles and one that adds One.
func twoOps(last, redo bool) impl.Stage {
	return impl.StageNew([]impl.Op{op(impl.OpScale, 1, 2*one), op(impl.OpBias, 1, one)}, planOf("fwd0 bwd0 flush0"), last, redo)
}

func TestAStageAheadAndBack(t *testing.T) {
	s := twoOps(false, false)
	want := s
	s.X = []int{9}
	s = impl.StageFwd(s, 0, []int{3 * one}, nil)
	want.Stash, want.Y = []impl.Saved{saved(0, []int{3 * one}, []int{6 * one}, []int{7 * one})}, []int{7 * one}
	checkStage(t, "ahead", s, want)
	s = impl.StageFwd(s, 1, []int{0}, []int{1, 2, 3})
	want.Stash, want.Y = append(want.Stash, saved(1, []int{0}, []int{0}, []int{one})), []int{one}
	checkStage(t, "the second one ahead", s, want)
	s.G = []int{one}
	s = impl.StageBwd(s, 0, nil)
	want.Stash, want.D, want.Sum = want.Stash[1:], []int{2 * one}, grads(0, false, []int{3 * one}, []int{one})
	checkStage(t, "back", s, want)
	s.G = []int{-2 * one}
	s = impl.StageBwd(s, 1, []int{})
	want.Stash, want.D, want.Sum = nil, []int{-4 * one}, grads(0, false, []int{3 * one}, []int{-one})
	checkStage(t, "the second one back", s, want)
}

func TestAStageWithRedoAheadAndBack(t *testing.T) {
	s := twoOps(false, true)
	want := s
	s = impl.StageFwd(s, 4, []int{3 * one}, nil)
	want.Stash, want.Y = []impl.Saved{saved(4, []int{3 * one})}, []int{7 * one}
	checkStage(t, "ahead", s, want)
	s.G = []int{one}
	want.G = []int{one}
	checkStage(t, "back of what was not done once more", impl.StageBwd(s, 4, nil), want)
	s = impl.StageRedo(s, 4)
	want.Full = rows([]int{3 * one}, []int{6 * one}, []int{7 * one})
	checkStage(t, "once more", s, want)
	s = impl.StageBwd(s, 4, nil)
	want.Stash, want.G, want.Full, want.D, want.Sum = nil, nil, nil, []int{2 * one}, grads(0, false, []int{3 * one}, []int{one})
	checkStage(t, "back", s, want)
}

func TestTheLastStageAheadAndBack(t *testing.T) {
	for _, redo := range []bool{false, true} {
		s := twoOps(true, redo)
		s.X, s.Y, s.G = []int{8}, []int{5}, []int{77 * one}
		want := plainOf(s)
		s = impl.StageFwd(s, 3, []int{3 * one}, []int{5 * one})
		want.X, want.Stash, want.Sum.Loss = nil, []impl.Saved{saved(3, []int{3 * one}, []int{6 * one}, []int{7 * one})}, 2*one
		if redo {
			want.Stash[0].Rows = want.Stash[0].Rows[:1]
		}
		// What was in Y stays there.
		checkStage(t, "ahead", s, want)
		s = impl.StageRedo(s, 3)
		want.Full = rows([]int{3 * one}, []int{6 * one}, []int{7 * one})
		checkStage(t, "once more", s, want)
		s = impl.StageBwd(s, 3, []int{5 * one})
		want.G, want.Full, want.Stash, want.D, want.Sum = nil, nil, nil, []int{4 * one}, grads(2*one, false, []int{6 * one}, []int{2 * one})
		// It begins with what came out less T, whatever is in G.
		checkStage(t, "back", s, want)
	}
}

// trip is a micro-batch that goes ahead or back.
type trip struct {
	m    int
	back bool
}

// eachTrips calls f with each order in which so many micro-batches, of any order themselves, can go ahead and back.
func eachTrips(count int, f func(l []trip)) {
	var further func(l []trip, ahead, back []bool)
	further = func(l []trip, ahead, back []bool) {
		if len(l) == 2*count {
			f(l)
			return
		}
		for m := range count {
			if !ahead[m] {
				ahead[m] = true
				further(append(l, trip{m, false}), ahead, back)
				ahead[m] = false
			} else if !back[m] {
				back[m] = true
				further(append(l, trip{m, true}), ahead, back)
				back[m] = false
			}
		}
	}
	further(nil, make([]bool, count), make([]bool, count))
}

// fewTrips are some orders: as the two plans have it, the last one first, and one by one.
func fewTrips(count int) [][]trip {
	l := make([][]trip, 5)
	for m := range count {
		l[0], l[1] = append(l[0], trip{m, false}), append(l[1], trip{m, false})
		l[2] = append(l[2], trip{m, false}, trip{m, true})
		l[3] = append(l[3], trip{m, false})
		if m > 0 {
			l[3] = append(l[3], trip{m - 1, true})
		}
		l[4] = append(l[4], trip{count - 1 - m, false})
	}
	for m := range count {
		l[0], l[1] = append(l[0], trip{m, true}), append(l[1], trip{count - 1 - m, true})
		l[4] = append(l[4], trip{(m + 1) % count, true})
	}
	l[3] = append(l[3], trip{count - 1, true})
	return l
}

// sameMs are what the micro-batches of a test are called: no two alike, and not all of them in a batch.
var sameMs = []int{1, 0, 4, -3, math.MaxInt}

// checkBothWays sends micro-batches ahead and back through a stage with Redo and through one without, and says where one tells what the other does not.
// What comes back for each is in backs; it tells the sums at the end.
func checkBothWays(t *testing.T, ops []impl.Op, last bool, b []impl.Pair, backs [][]int, l []trip) impl.Grads {
	t.Helper()
	kept, once := impl.StageNew(ops, nil, last, false), impl.StageNew(ops, nil, last, true)
	for _, at := range l {
		m, p := sameMs[at.m], b[at.m]
		if !at.back {
			kept, once = checkFwd(t, kept, m, p.X, p.T), checkFwd(t, once, m, p.X, p.T)
		} else {
			kept.G, once.G = backs[at.m], backs[at.m]
			was := kept.Stash[impl.FindSaved(kept.Stash, m)].Rows
			once = checkRedo(t, once, m)
			if !alikeRows(once.Full, was) {
				t.Fatalf("%v of %s, last %v: done once more %d is %s, done ahead it was %s", l, brief(ops), last, m, brief(once.Full), brief(was))
			}
			kept, once = checkBwd(t, kept, m, p.T), checkBwd(t, once, m, p.T)
		}
		if !slices.Equal(kept.Y, once.Y) || !slices.Equal(kept.D, once.D) || !alike(kept.Sum, once.Sum) {
			t.Fatalf("%v of %s, last %v: %s without Redo, %s with it", l, brief(ops), last, brief(kept), brief(once))
		}
		if len(once.Full) != 0 || len(kept.Full) != 0 {
			t.Fatalf("%v of %s, last %v: Full is %s without Redo, %s with it", l, brief(ops), last, brief(kept.Full), brief(once.Full))
		}
	}
	if impl.Ledger(once) != impl.Ledger(kept) || len(once.Stash) != 0 || len(kept.Stash) != 0 {
		t.Fatalf("%v of %s, last %v: at the end there are %s without Redo, %s with it", l, brief(ops), last, brief(kept), brief(once))
	}
	return kept.Sum
}

func TestToKeepLessChangesNoGradient(t *testing.T) {
	batches := 0
	eachBatch(func(m impl.Model, b []impl.Pair, gentle bool) {
		var backs [][]int
		for i := range b {
			if row := rightRow(impl.OutOf(m), i); !gentle {
				backs = append(backs, row)
			} else {
				backs = append(backs, gentleRow(impl.OutOf(m), i))
			}
		}
		first := impl.Sequential(m, b)
		batches++
		for i, l := range fewTrips(len(b)) {
			// By turns, since there are many batches.
			if (batches+i)%4 == 0 {
				checkBothWays(t, m.Ops, false, b, backs, l)
			}
			if (batches+i)%3 != 0 {
				continue
			}
			// The last stage alone is one alone, where it goes ahead and back in order, or where nothing runs over.
			if got := checkBothWays(t, m.Ops, true, b, backs, l); (gentle || i == 0 || i == 2 || i == 3) && !alike(got, first) {
				t.Fatalf("%v of %s makes %s, one alone makes %s", l, brief(m), brief(got), brief(first))
			}
		}
	})
}

func TestToKeepLessChangesNoGradientInEachOrder(t *testing.T) {
	for _, ops := range [][]impl.Op{{dense(2, 3, one, -one, 2*one, one/2, 0, one/3)}, {op(impl.OpScale, 2, 40*one), op(impl.OpRelu, 2), dense(2, 1, 7*one, one), op(impl.OpBias, 1, -5)}} {
		in, out := endsOf(ops)
		for count := 1; count <= 3; count++ {
			gentle, far := gentleBatch(in, out, count), batchFor(in, out, count)
			backs := [][]int{rightRow(out, 3), gentleRow(out, 1), rightRow(out, 9)}
			eachTrips(count, func(l []trip) {
				for _, last := range []bool{false, true} {
					checkBothWays(t, ops, last, gentle, backs, l)
					checkBothWays(t, ops, last, far, backs, l)
				}
			})
		}
	}
}

// TestTwoStagesMakeWhatOneAloneMakes cuts a model in two, at each place, one of them with Redo, and hands on by hand.
func TestTwoStagesMakeWhatOneAloneMakes(t *testing.T) {
	for count := 2; count <= impl.MaxOps; count++ {
		for _, m := range []impl.Model{gentleModel(count, 1, 2, 1), chainOf(count, 2, 3, 2), gentleModel(count, 0, 1, 5)} {
			in, out := wantModel(m)
			for _, b := range [][]impl.Pair{gentleBatch(in, out, 4), batchFor(in, out, 3)} {
				want := impl.Sequential(m, b)
				for cut := 1; cut < count; cut++ {
					for flags := range 4 {
						first, second := impl.StageNew(m.Ops[:cut], nil, false, flags&1 != 0), impl.StageNew(m.Ops[cut:], nil, true, flags&2 != 0)
						for i, p := range b {
							first = impl.StageFwd(first, i, p.X, nil)
							second = impl.StageBwd(impl.StageRedo(impl.StageFwd(second, i, first.Y, p.T), i), i, p.T)
							first.G = second.D
							first = impl.StageBwd(impl.StageRedo(first, i), i, nil)
						}
						got := grads(second.Sum.Loss, first.Sum.Sat || second.Sum.Sat)
						got.Rows = slices.Concat(first.Sum.Rows, second.Sum.Rows)
						if first.Sum.Loss != 0 || !alike(got, want) {
							t.Fatalf("%s cut at %d, with %s: %s, want %s", brief(m), cut, brief(b), brief(got), brief(want))
						}
					}
				}
			}
		}
	}
}

func TestFaultyStagesStayAsTheyAre(t *testing.T) {
	eachStageWith(func(right impl.Stage) {
		in, out := endsOf(right.Ops)
		x, to := rightRow(in, 2), rightRow(out, 1)
		// The same is done to the right one, so that it is the fault alone that keeps the others as they are.
		if right.Full = savedRows(right.Ops, 2); len(checkFwd(t, right, 0, x, to).Stash) != 4 || len(checkBwd(t, right, 2, to).Stash) != 2 || like(checkRedo(t, right, -7), right) {
			t.Fatalf("%s stayed as it is", brief(right))
		}
		eachFault(right, func(name string, s impl.Stage) {
			checkStageStays(t, name, checkFwd(t, s, 0, x, to), s)
			checkStageStays(t, name, checkRedo(t, s, -7), s)
			checkStageStays(t, name, checkBwd(t, s, 2, to), s)
		})
	})
	eachWrongModel(func(m impl.Model, p impl.Pair) {
		s := stageWith(m.Ops[:min(len(m.Ops), 50)], len(m.Ops)%2 == 0, m.Ops == nil)
		checkStageStays(t, "no right model", checkFwd(t, s, 0, p.X, p.T), s)
		checkStageStays(t, "no right model", checkRedo(t, s, -7), s)
		checkStageStays(t, "no right model", checkBwd(t, s, 2, p.T), s)
	})
	checkStageStays(t, "the zero one", impl.StageFwd(impl.Stage{}, 0, nil, nil), impl.Stage{})
	checkStageStays(t, "the zero one", impl.StageRedo(impl.Stage{}, 0), impl.Stage{})
	checkStageStays(t, "the zero one", impl.StageBwd(impl.Stage{}, 0, nil), impl.Stage{})
}

func TestStageFwdAsItIs(t *testing.T) {
	eachStageWith(func(right impl.Stage) {
		in, out := endsOf(right.Ops)
		x, to := rightRow(in, 2), rightRow(out, 1)
		eachVariant(right, func(name string, s impl.Stage) {
			if got := checkFwd(t, s, 0, x, to); len(got.Stash) != len(s.Stash)+1 {
				t.Fatalf("%s: StageFwd let %s as it is", name, brief(s))
			}
			for _, x := range s.Stash {
				checkStageStays(t, "one of M m is saved", checkFwd(t, s, x.M, x.Rows[0].V, to), s)
			}
		})
		for _, wrong := range wrongRowsFor(in) {
			checkStageStays(t, "x", checkFwd(t, right, 0, wrong, to), right)
		}
		for _, wrong := range wrongRowsFor(out) {
			got := checkFwd(t, right, 0, x, wrong)
			if right.Last {
				checkStageStays(t, "t", got, right)
			} else if !like(got, impl.StageFwd(right, 0, x, to)) {
				t.Fatalf("t matters in a stage that is not the last one: %s", brief(got))
			}
		}
	})
}

func TestStageFwdOfEachMicroBatch(t *testing.T) {
	for _, redo := range []bool{false, true} {
		s := twoOps(false, redo)
		for i, m := range []int{0, 1, -1, 5, 4, 256, -256, 1 << 32, math.MaxInt, math.MinInt} {
			s = checkFwd(t, s, m, []int{m % one}, nil)
			if len(s.Stash) != i+1 || impl.FindSaved(s.Stash, m) != i || !impl.StageOk(s) {
				t.Fatalf("with %d there are %v", m, s.Stash)
			}
		}
	}
}

func TestLossAndSatOfTheLastStage(t *testing.T) {
	pass, add := []impl.Op{op(impl.OpBias, 2, 0, 0)}, []impl.Op{op(impl.OpBias, 2, one, 0), op(impl.OpScale, 2, one)}
	near, half := pair([]int{2 * one, 0}, []int{0, 0}), pair([]int{11863283, 2202}, []int{0, 0}) // the loss of half is just within
	nothing := pair([]int{3, 4}, []int{3, 4})
	over := pair([]int{most, 7}, []int{most, 7})
	for i, c := range []struct {
		ops  []impl.Op
		b    []impl.Pair
		loss int
		sat  bool
	}{
		{pass, nil, 0, false}, {pass, []impl.Pair{nothing}, 0, false}, {pass, []impl.Pair{near}, 2 * one, false}, {pass, []impl.Pair{near, near, nothing, near}, 6 * one, false}, {pass, []impl.Pair{over}, 0, false},
		// The inputs are out of the range, though the loss is not.
		{add, []impl.Pair{over}, 0, true}, {add, []impl.Pair{near, pair([]int{most, 0}, []int{most, 0}), near}, 9 * one, true},
		// The loss is out of the range: by the difference, a product, or the sum of two.
		{pass, []impl.Pair{pair([]int{most, 0}, []int{-1, 0})}, most / 2, true}, {pass, []impl.Pair{near, pair([]int{300 * one, 0}, []int{0, 0})}, 2*one + most/2, true}, {pass, []impl.Pair{pair([]int{11863283, 2203}, []int{0, 0}), near}, 2*one + most/2, true},
		// The sum alone is out of the range; it stays marked.
		{pass, []impl.Pair{half, half}, most - 1, false}, {pass, []impl.Pair{half, half, half}, most, true}, {pass, []impl.Pair{half, half, near}, most, true}, {pass, []impl.Pair{half, near, half, nothing}, most, true},
	} {
		for _, redo := range []bool{false, true} {
			s := impl.StageNew(c.ops, nil, true, redo)
			other := impl.StageNew(c.ops, nil, false, redo)
			for m, p := range c.b {
				s, other = checkFwd(t, s, m, p.X, p.T), checkFwd(t, other, m, p.X, p.T)
			}
			if s.Sum.Loss != c.loss || s.Sum.Sat != c.sat {
				t.Errorf("case %d: Loss %d, Sat %v, want %d, %v", i, s.Sum.Loss, s.Sum.Sat, c.loss, c.sat)
			}
			if !alikeRows(s.Sum.Rows, noughts(impl.Model{Ops: c.ops}).Rows) || len(s.Y) != 0 {
				t.Errorf("case %d: Sum is %v, Y %v", i, s.Sum, s.Y)
			}
			// Another stage has no loss, and marks the inputs alone.
			if other.Sum.Loss != 0 || other.Sum.Sat != (c.sat && &c.ops[0] == &add[0]) {
				t.Errorf("case %d: another stage has Loss %d, Sat %v", i, other.Sum.Loss, other.Sum.Sat)
			}
		}
	}
}

func TestSatOfAStage(t *testing.T) {
	marked := func(name string, s impl.Stage, want bool) {
		t.Helper()
		if s.Sum.Sat != want {
			t.Errorf("%s: Sat is %v in %v", name, s.Sum.Sat, s)
		}
	}
	// Once it is set it stays so.
	for flags := range 4 {
		s := twoOps(flags&1 != 0, flags&2 != 0)
		s.Sum.Sat = true
		s = checkFwd(t, s, 0, []int{one}, []int{one})
		marked("ahead", s, true)
		s.G = []int{one}
		marked("back", checkBwd(t, checkRedo(t, s, 0), 0, []int{one}), true)
	}
	// To go once more marks nothing.
	s := impl.StageNew([]impl.Op{op(impl.OpBias, 1, one)}, nil, false, true)
	s.Stash, s.G = []impl.Saved{saved(0, []int{most})}, []int{0}
	s = checkRedo(t, s, 0)
	if marked("once more", s, false); !alikeRows(s.Full, rows([]int{most}, []int{most})) {
		t.Errorf("Full is %v", s.Full)
	}
	marked("back of it", checkBwd(t, s, 0, nil), false)
	for _, c := range []struct {
		name     string
		o        impl.Op
		into, d  int
		sum      int
		sat      bool
		sumAfter int
	}{
		{"the gradient", op(impl.OpScale, 1, 0), 300 * one, -180 * one, 0, true, -most}, {"what goes on", op(impl.OpScale, 1, 300*one), 0, -180 * one, 0, true, 0}, {"the sum", op(impl.OpBias, 1, 0), 0, 1, most, true, most}, {"the sum below", op(impl.OpBias, 1, 0), 0, -1, -most, true, -most},
		{"none", op(impl.OpScale, 1, 180*one), 180 * one, -180 * one, 5, false, 5 - 32400*one}, {"none of it", op(impl.OpBias, 1, 0), 0, -1, most, false, most - 1},
	} {
		s := impl.StageNew([]impl.Op{c.o}, nil, false, false)
		s.Stash, s.G, s.Sum.Rows[0].V = []impl.Saved{saved(0, []int{c.into}, []int{0})}, []int{c.d}, []int{c.sum}
		got := checkBwd(t, s, 0, nil)
		if marked(c.name, got, c.sat); got.Sum.Rows[0].V[0] != c.sumAfter {
			t.Errorf("%s: the sum is %v, want %d", c.name, got.Sum.Rows, c.sumAfter)
		}
	}
	// What the last stage begins with is out of the range, and masked behind it.
	s = impl.StageNew([]impl.Op{op(impl.OpRelu, 1)}, nil, true, false)
	s.Stash = []impl.Saved{saved(0, []int{0}, []int{most})}
	marked("the first difference", checkBwd(t, s, 0, []int{-1}), true)
	marked("the first difference, just within", checkBwd(t, s, 0, []int{0}), false)
}

func TestSumsThatAreOutOfTheRange(t *testing.T) {
	s := twoOps(true, false)
	s.Sum = grads(math.MaxInt, false, []int{math.MinInt}, []int{most + 1})
	s = checkFwd(t, s, 0, []int{3 * one}, []int{7 * one})
	if s.Sum.Loss != most || s.Sum.Sat || s.Sum.Rows[0].V[0] != math.MinInt {
		t.Errorf("ahead: Sum is %v", s.Sum)
	}
	s = checkBwd(t, s, 0, []int{7 * one})
	if want := grads(most, false, []int{-most}, []int{most}); !alike(s.Sum, want) {
		t.Errorf("back: Sum is %v, want %v", s.Sum, want)
	}
}

func TestStageRedo(t *testing.T) {
	eachStageWith(func(right impl.Stage) {
		for _, m := range []int{0, -1, 1, 7, -2, 299, math.MaxInt, math.MinInt} {
			checkStageStays(t, "none of m is saved", checkRedo(t, right, m), right)
		}
		for _, x := range right.Stash {
			want := plainOf(right)
			want.Full, _ = impl.Inputs(impl.Model{Ops: right.Ops}, x.Rows[0].V)
			checkStage(t, "once more", checkRedo(t, right, x.M), want)
		}
		eachVariant(right, func(name string, s impl.Stage) {
			for _, m := range []int{2, -7, 300} {
				checkRedo(t, s, m)
			}
		})
		none := plainOf(right)
		none.Stash = nil
		checkStageStays(t, "none is saved", checkRedo(t, none, 2), none)
	})
}

func TestStageBwdAsItIs(t *testing.T) {
	eachStageWith(func(right impl.Stage) {
		_, out := endsOf(right.Ops)
		to := rightRow(out, 1)
		check := func(name string, m int, to []int, stays bool, change func(s *impl.Stage)) {
			t.Helper()
			s := plainOf(right)
			if change(&s); !impl.StageOk(s) {
				return
			}
			if got := checkBwd(t, s, m, to); stays {
				checkStageStays(t, name, got, s)
			} else if len(got.Stash) != len(s.Stash)-1 || len(got.G) != 0 || len(got.Full) != 0 {
				t.Fatalf("%s: %s became %s", name, brief(s), brief(got))
			}
		}
		same := func(s *impl.Stage) {}
		for _, m := range []int{2, -7, 300} {
			check("as it should be", m, to, false, same)
		}
		for _, m := range []int{0, 1, 3, -2, 7, math.MaxInt, math.MinInt} {
			check("none of m is saved", m, to, true, same)
		}
		check("none is saved", 2, to, true, func(s *impl.Stage) { s.Stash = nil })
		for _, l := range wrongFulls(right.Ops) {
			check("Full", -7, to, right.Redo, func(s *impl.Stage) { s.Full = l })
		}
		check("G is empty", 2, to, !right.Last, func(s *impl.Stage) { s.G = nil })
		check("G is empty", 2, to, !right.Last, func(s *impl.Stage) { s.G = []int{} })
		for _, v := range wrongRowsFor(out) {
			check("t", 300, v, right.Last, same)
			check("G", 300, to, !right.Last, func(s *impl.Stage) { s.G = v })
			// The last row of Full goes into no operation: the last stage alone begins with it.
			check("the end of Full", 2, to, right.Last && right.Redo, func(s *impl.Stage) { s.Full[len(s.Ops)].V = v })
			check("the end of Full and t", 2, v, right.Last, func(s *impl.Stage) { s.Full[len(s.Ops)].V = v })
		}
		eachVariant(right, func(name string, s impl.Stage) {
			for _, m := range []int{2, -7, 300} {
				checkBwd(t, s, m, to)
			}
		})
	})
}

func TestFullOfAnotherMicroBatch(t *testing.T) {
	s := twoOps(false, true)
	s = checkFwd(t, checkFwd(t, s, 0, []int{one}, nil), 1, []int{5 * one}, nil)
	s = checkRedo(t, s, 1)
	s.G = []int{one}
	// What went into the operations is Full, whatever it is of; what is gone is what was saved of m.
	s = checkBwd(t, s, 0, nil)
	if want := grads(0, false, []int{5 * one}, []int{one}); !alike(s.Sum, want) || len(s.Stash) != 1 || s.Stash[0].M != 1 {
		t.Errorf("Sum is %v, want %v; saved is %v", s.Sum, want, s.Stash)
	}
}

func TestWhatStaysSaved(t *testing.T) {
	for flags := range 4 {
		last, redo := flags&1 != 0, flags&2 != 0
		for count := 1; count <= 5; count++ {
			s := twoOps(last, redo)
			for i := range count {
				s = checkFwd(t, s, sameMs[i], []int{i * one}, []int{0})
			}
			for i := range count {
				back := plainOf(s)
				back.G = []int{1}
				got := checkBwd(t, checkRedo(t, back, sameMs[i]), sameMs[i], []int{0})
				if want := slices.Delete(slices.Clone(s.Stash), i, i+1); !like(got.Stash, want) {
					t.Errorf("without number %d of %v there is %v", i, s.Stash, got.Stash)
				}
				if at := impl.FindSaved(got.Stash, sameMs[i]); at != -1 {
					t.Errorf("what was used is saved at %d", at)
				}
			}
		}
	}
}

func TestTwoSavedOfTheSameMicroBatch(t *testing.T) {
	s := twoOps(false, false)
	first, second := saved(3, []int{one}, []int{2 * one}, []int{3 * one}), saved(3, []int{-one}, []int{-2 * one}, []int{-one})
	other, third := saved(-1, []int{0}, []int{0}, []int{one}), saved(3, []int{4 * one}, []int{8 * one}, []int{9 * one})
	s.Stash, s.G = []impl.Saved{first, other, second, third}, []int{one}
	if at := impl.FindSaved(s.Stash, 3); at != 0 {
		t.Errorf("FindSaved is %d", at)
	}
	checkStageStays(t, "one is saved", checkFwd(t, s, 3, []int{one}, nil), s)
	if got := checkRedo(t, s, 3); !alikeRows(got.Full, first.Rows) {
		t.Errorf("Full is %v", got.Full)
	}
	s = checkBwd(t, s, 3, nil)
	if want := grads(0, false, []int{one}, []int{one}); !alike(s.Sum, want) || !like(s.Stash, []impl.Saved{other, second, third}) {
		t.Errorf("Sum is %v, want %v; saved is %v", s.Sum, want, s.Stash)
	}
	s.G = []int{one}
	s = checkBwd(t, s, 3, nil)
	if want := grads(0, false, []int{0}, []int{2 * one}); !alike(s.Sum, want) || !like(s.Stash, []impl.Saved{other, third}) {
		t.Errorf("Sum is %v, want %v; saved is %v", s.Sum, want, s.Stash)
	}
}

func TestFindSaved(t *testing.T) {
	ms := func(l ...int) []impl.Saved {
		var made []impl.Saved
		for _, m := range l {
			made = append(made, impl.Saved{M: m})
		}
		return made
	}
	for _, c := range []struct {
		l       []impl.Saved
		m, want int
	}{
		{nil, 0, -1}, {nil, -1, -1}, {[]impl.Saved{}, 0, -1}, {ms(0), 0, 0}, {ms(0), 1, -1}, {ms(1), 0, -1}, {ms(1, 2, 3), 1, 0}, {ms(1, 2, 3), 2, 1}, {ms(1, 2, 3), 3, 2}, {ms(1, 2, 3), 4, -1}, {ms(3, 1, 2), 1, 1},
		// The first of several.
		{ms(5, 5), 5, 0}, {ms(1, 5, 5, 5), 5, 1}, {ms(2, 1, 2), 2, 0}, {ms(0, 2, 1, 0), 0, 0}, {ms(7, 7, 7, 1), 1, 3},
		// M of any kind.
		{ms(-1), -1, 0}, {ms(0, -1), -1, 1}, {ms(1), -1, -1}, {ms(math.MinInt, math.MaxInt), math.MaxInt, 1}, {ms(math.MinInt, math.MaxInt), math.MinInt, 0}, {ms(256, 0), 0, 1}, {ms(1<<32, 0), 0, 1}, {ms(0), 1 << 32, -1},
		// What stands behind the end is no part of it.
		{ms(1, 2)[:1], 2, -1}, {ms(1, 2)[:0], 1, -1},
	} {
		if got := impl.FindSaved(c.l, c.m); got != c.want {
			t.Errorf("FindSaved(%v, %d) = %d, want %d", c.l, c.m, got, c.want)
		}
	}
	for size := range 6 {
		for n := range 1 << (2 * size) {
			var l []int
			for i := range size {
				l = append(l, n>>(2*i)&3-1)
			}
			for m := -2; m <= 3; m++ {
				if got, want := impl.FindSaved(ms(l...), m), slices.Index(l, m); got != want {
					t.Fatalf("FindSaved(%v, %d) = %d, want %d", l, m, got, want)
				}
			}
		}
	}
}

// anyStage is a stage of which some things may be not right.
func anyStage(r *rand.Rand) impl.Stage {
	m := []func(count, first, by, step int) impl.Model{chainOf, gentleModel}[r.IntN(2)](1+r.IntN(4), r.IntN(5), r.IntN(5), r.IntN(6))
	s := stageWith(m.Ops, r.IntN(2) == 0, r.IntN(2) == 0)
	for i := range s.Stash {
		s.Stash[i].M = r.IntN(5) - 1
	}
	s.Stash = s.Stash[:r.IntN(4)]
	s.Sum.Sat = r.IntN(4) == 0
	for _, v := range []*[]int{&s.X, &s.Y, &s.G, &s.D} {
		if r.IntN(6) == 0 {
			*v = nil
		}
	}
	lists := spread(&s)
	if r.IntN(3) == 0 {
		v := lists[r.IntN(len(lists))]
		wrong := wrongRowsFor(max(1, len(*v)))
		*v = wrong[r.IntN(len(wrong))]
	}
	return s
}

// spread are all rows of a stage that hold something.
func spread(s *impl.Stage) []*[]int {
	l := []*[]int{&s.X, &s.Y, &s.G, &s.D}
	for i := range s.Full {
		l = append(l, &s.Full[i].V)
	}
	for i := range s.Sum.Rows {
		l = append(l, &s.Sum.Rows[i].V)
	}
	for i := range s.Stash {
		for at := range s.Stash[i].Rows {
			l = append(l, &s.Stash[i].Rows[at].V)
		}
	}
	return l
}

func TestStagesWithAnythingInThem(t *testing.T) {
	r := rand.New(rand.NewPCG(11, 11))
	stayed, went := [3]int{}, [3]int{}
	count := func(kind int, s, got impl.Stage) {
		if like(s, got) {
			stayed[kind]++
		} else {
			went[kind]++
		}
	}
	for range 20000 {
		s := anyStage(r)
		in, out := endsOf(s.Ops)
		x, to := rightRow(in, r.IntN(16)), rightRow(out, r.IntN(16))
		m := r.IntN(5) - 1
		checkAsked(t, "any", s, wantStageOk(s))
		count(0, s, checkFwd(t, s, m, x, to))
		count(1, s, checkRedo(t, s, m))
		count(2, s, checkBwd(t, s, m, to))
		if got, want := impl.FindSaved(s.Stash, m), wantFind(s.Stash, m); got != want {
			t.Fatalf("FindSaved(%v, %d) = %d, want %d", s.Stash, m, got, want)
		}
	}
	if slices.Min(stayed[:]) < 1000 || slices.Min(went[:]) < 1000 {
		t.Errorf("%v stayed, %v went", stayed, went)
	}
}

// checkStageMemory says where what is asked of a stage writes into what is handed in, or tells what is not new memory.
func checkStageMemory(t *testing.T, ofS impl.Stage, m int, ofX, ofTo []int) {
	t.Helper()
	s, x, to := roomyOf(ofS), roomyOf(ofX), roomyOf(ofTo)
	wasS, wasX, wasTo := wholeOf(s), wholeOf(x), wholeOf(to)
	things := []any{s, x, to}
	for range 2 {
		impl.StageOk(s)
		impl.Ledger(s)
		impl.FindSaved(s.Stash, m)
		things = append(things, impl.StageNew(s.Ops, s.Plan, s.Last, s.Redo), impl.StageFwd(s, m, x, to), impl.StageRedo(s, m), impl.StageBwd(s, m, to))
	}
	if !reflect.DeepEqual(wholeOf(s), wasS) || !reflect.DeepEqual(wholeOf(x), wasX) || !reflect.DeepEqual(wholeOf(to), wasTo) {
		t.Fatalf("asked of a stage: wrote into what was handed in: %s, was %s", brief(wholeOf(s)), brief(wasS))
	}
	if !apart(things...) {
		t.Fatalf("of %s, %d, %s and %s: an answer shares memory", brief(ofS), m, brief(ofX), brief(ofTo))
	}
}

func TestStagesAreNewMemory(t *testing.T) {
	eachStageWith(func(right impl.Stage) {
		in, out := endsOf(right.Ops)
		for _, m := range []int{0, 2, -7, 300} {
			checkStageMemory(t, right, m, rightRow(in, 1), rightRow(out, 2))
			checkStageMemory(t, right, m, rightRow(in, 1)[1:], make([]int, out+1))
			checkStageMemory(t, right, m, nil, nil)
		}
		eachVariant(right, func(_ string, s impl.Stage) { checkStageMemory(t, s, -7, rightRow(in, 1), rightRow(out, 2)) })
		n := 0
		eachFault(right, func(_ string, s impl.Stage) {
			// There are many faults of the same kind.
			if n++; n%17 == 0 {
				checkStageMemory(t, s, n%2*2, rightRow(in, 1), rightRow(out, 2))
			}
		})
	})
	eachWrongModel(func(m impl.Model, p impl.Pair) {
		if len(m.Ops) < 20 {
			checkStageMemory(t, stageWith(m.Ops, true, false), 2, p.X, p.T)
		}
	})
	checkStageMemory(t, impl.Stage{}, 0, nil, nil)
}

func TestStagesOfLongListsStayAsTheyAre(t *testing.T) {
	s := twoOps(true, true)
	for m := range 3000 {
		s.Stash = append(s.Stash, saved(m/2, []int{m}))
	}
	s.Plan = slices.Repeat(s.Plan, 1000)
	s.Pc = len(s.Plan)
	checkAsked(t, "many are saved", s, true)
	got := checkBwd(t, checkRedo(t, s, 700), 700, []int{0})
	if len(got.Stash) != 2999 || got.Stash[1400].Rows[0].V[0] != 1401 {
		t.Errorf("there are %d", len(got.Stash))
	}
	checkStageMemory(t, s, 700, []int{1}, []int{2})
	s.Stash[2999].Rows = nil
	checkAsked(t, "the last one is not right", s, false)
	checkStageStays(t, "the last one is not right", checkRedo(t, s, 700), s)
}

// overwriteAll writes marks all over each list of a thing, to the end of its room.
func overwriteAll(v reflect.Value) {
	switch v.Kind() {
	case reflect.Struct:
		for i := range v.NumField() {
			overwriteAll(v.Field(i))
		}
	case reflect.Slice:
		whole := v.Slice(0, v.Cap())
		for i := range whole.Len() {
			overwriteAll(whole.Index(i))
			whole.Index(i).Set(markOf(v.Type().Elem()))
		}
	}
}

func TestAnswersOfStagesDoNotChange(t *testing.T) {
	eachStageWith(func(right impl.Stage) {
		in, out := endsOf(right.Ops)
		s, x, to := roomyOf(right), roomyRow(rightRow(in, 3)), roomyRow(rightRow(out, 4))
		// One answer is made of the other: what was answered stays when what comes of it is written to, and the other way round.
		l := []impl.Stage{s, impl.StageNew(s.Ops, s.Plan, s.Last, s.Redo)}
		for m := range 3 {
			l = append(l, impl.StageFwd(l[len(l)-1], m, x, to))
		}
		l = append(l, impl.StageRedo(l[len(l)-1], 1), impl.StageFwd(l[len(l)-1], 1, x, to))
		l = append(l, impl.StageBwd(impl.StageRedo(l[4], 0), 0, to), impl.StageBwd(l[4], 9, to), impl.StageBwd(s, 2, to))
		was := make([]impl.Stage, len(l))
		for i, s := range l {
			was[i] = plainOf(s)
		}
		overwriteAll(reflect.ValueOf(x))
		overwriteAll(reflect.ValueOf(to))
		for i := range l {
			overwriteAll(reflect.ValueOf(l[i]))
			for at := i + 1; at < len(l); at++ {
				if !like(l[at], was[at]) {
					t.Fatalf("as answer %d was written to, answer %d became %s, was %s", i, at, brief(l[at]), brief(was[at]))
				}
			}
		}
	})
}

func TestStagesWhoseListsAreOneMemory(t *testing.T) {
	for flags := range 4 {
		row := []int{2 * one, -3 * one, one, one}
		o := op(impl.OpBias, 2, row[:2]...)
		l := rows(row[:2], row[1:3], row[2:])
		s := impl.Stage{Ops: []impl.Op{o, o}, Last: flags&1 != 0, Redo: flags&2 != 0, Stash: []impl.Saved{{M: 1, Rows: l}, {M: 2, Rows: l}}, Full: l, X: row[:2], Y: row[:2], G: row[1:3], D: row[2:], Sum: impl.Grads{Rows: l[:2]}}
		if s.Redo {
			s.Stash[0].Rows, s.Stash[1].Rows = l[:1], l[1:2]
		}
		far := plainOf(s)
		var got []impl.Stage
		for range 2 {
			for m := range 3 {
				got = append(got, checkFwd(t, s, m, row[:2], row[2:]), checkRedo(t, s, m), checkBwd(t, s, m, row[1:3]))
			}
			got = append(got, impl.StageNew(s.Ops, nil, true, true))
		}
		if !like(s, far) || !apart(row, got) {
			t.Fatalf("of %v: an answer shares memory, or %v was written to", far, s)
		}
		was := plainOf(got)
		for i := range l {
			l[i] = impl.Row{V: []int{97}}
		}
		if !like(got, was) {
			t.Errorf("of %v: an answer changed with the list that was handed in", far)
		}
	}
}
