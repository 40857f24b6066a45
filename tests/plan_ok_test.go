package tests

import (
	"testing"

	"loop.example/thread/impl"
)

type okCase struct {
	name string
	p    impl.Plan
	want impl.Fault
}

// check also asks that the plan is left as it was, that a second call answers the same, and that only a valid plan has a text.
func check(t *testing.T, cases []okCase) {
	t.Helper()
	for _, c := range cases {
		before := copyOf(c.p)
		if got := impl.PlanOk(c.p); got != c.want {
			t.Errorf("%s: %v, not %v", c.name, got, c.want)
		}
		if got := impl.PlanOk(c.p); got != c.want {
			t.Errorf("%s: asked again: %v, not %v", c.name, got, c.want)
		}
		if text := impl.WritePlan(c.p); (text == "") != (c.want.Code != 0) {
			t.Errorf("%s: text %q", c.name, text)
		}
		if !samePlan(before, c.p) {
			t.Errorf("%s: the plan was changed", c.name)
		}
	}
}

func TestConstants(t *testing.T) {
	ops := []int{impl.TSet, impl.TAdd, impl.TSay, impl.TNew, impl.TResume, impl.TYield, impl.TGiveUp, impl.TStatus, impl.TThrow, impl.TReturn, impl.TTry, impl.TScope, impl.TDefer, impl.TLoop, impl.TIf}
	for i, op := range ops {
		if op != i+1 {
			t.Errorf("op %d is %d", i+1, op)
		}
	}
	limits := [...]int{impl.MaxBodies, impl.MaxSteps, impl.MaxDeep, impl.MaxTasks, impl.MaxTicks, impl.Regs}
	if limits != [...]int{30, 300, 12, 60, 5000, 4} {
		t.Error(limits)
	}
}

func TestBodies(t *testing.T) {
	check(t, []okCase{
		{"nil", impl.Plan{}, fault(1, 0, 0)},
		{"no bodies", impl.Plan{Bodies: []impl.Body{}}, fault(1, 0, 0)},
		{"an empty body", plan(nil), fault(0, 0, 0)},
		{"an empty list of steps", plan([]impl.Step{}), fault(0, 0, 0)},
		{"30", impl.Plan{Bodies: make([]impl.Body, 30)}, fault(0, 0, 0)},
		{"31", impl.Plan{Bodies: make([]impl.Body, 31)}, fault(1, 0, 0)},
		{"1000", impl.Plan{Bodies: make([]impl.Body, 1000)}, fault(1, 0, 0)},
	})
}

func TestSteps(t *testing.T) {
	check(t, []okCase{
		{"300", one(says(300)...), fault(0, 0, 0)},
		{"301", one(says(301)...), fault(2, 0, 0)},
		{"300 and 300", plan(says(300), says(300)), fault(0, 0, 0)},
		{"301 behind 300", plan(says(300), says(301)), fault(2, 1, 0)},
		{"301 and 400 behind 1", plan(says(1), says(301), says(400)), fault(2, 1, 0)},
		{"a head of 299", one(append([]impl.Step{head(impl.TScope, 299)}, says(299)...)...), fault(0, 0, 0)},
	})
}

// put is a plan whose step is at body 1, step 2, with a block's room behind it.
func put(s impl.Step) impl.Plan {
	return plan(says(1), append([]impl.Step{say(), say(), s}, says(3)...), nil)
}

func checkField(t *testing.T, name string, s impl.Step, ok bool) {
	t.Helper()
	want := fault(3, 1, 2)
	if ok {
		want = fault(0, 0, 0)
	}
	check(t, []okCase{{name, put(s), want}})
}

func TestOps(t *testing.T) {
	for _, op := range []int{0, -1, 16, 17, 100, least, greatest} {
		checkField(t, "op", impl.Step{Op: op}, false)
	}
	for _, f := range forms() {
		checkField(t, f.name, impl.Step{Op: f.op}, true)
	}
}

func TestFields(t *testing.T) {
	for _, f := range forms() {
		for _, v := range []int{1, 2, 3, 4, 5, -1, least, greatest} {
			reg := v >= 0 && v < 4
			checkField(t, f.name+" A", impl.Step{Op: f.op, A: v}, f.regA && reg)
			checkField(t, f.name+" B", impl.Step{Op: f.op, B: v}, f.regB && reg || f.body && v >= 0 && v < 3)
			checkField(t, f.name+" N", impl.Step{Op: f.op, N: int64(v)}, f.num)
		}
	}
}

func TestSizes(t *testing.T) {
	for _, f := range forms() {
		for _, v := range []int{1, 2, 3} {
			checkField(t, f.name, impl.Step{Op: f.op, Size: v}, f.head)
		}
		for _, v := range []int{-1, -2, least} {
			checkField(t, f.name, impl.Step{Op: f.op, Size: v}, false)
		}
		for _, v := range []int{4, 5, 300, greatest - 3, greatest - 2, greatest - 1, greatest} {
			want := fault(3, 1, 2)
			if f.head {
				want = fault(4, 1, 2)
			}
			check(t, []okCase{{f.name, put(impl.Step{Op: f.op, Size: v}), want}})
		}
	}
}

func TestNewBody(t *testing.T) {
	at := func(n, b int) impl.Plan {
		p := impl.Plan{Bodies: make([]impl.Body, n)}
		p.Bodies[n-1].Steps = []impl.Step{{Op: impl.TNew, B: b}}
		return p
	}
	check(t, []okCase{
		{"0 of 1", at(1, 0), fault(0, 0, 0)},
		{"1 of 1", at(1, 1), fault(3, 0, 0)},
		{"-1 of 1", at(1, -1), fault(3, 0, 0)},
		{"29 of 30", at(30, 29), fault(0, 0, 0)},
		{"30 of 30", at(30, 30), fault(3, 29, 0)},
		{"4 of 5", at(5, 4), fault(0, 0, 0)},
		{"5 of 5", at(5, 5), fault(3, 4, 0)},
	})
}

func TestEnds(t *testing.T) {
	check(t, []okCase{
		{"a block up to the body's end", one(head(impl.TScope, 2), say(), say()), fault(0, 0, 0)},
		{"one step behind the body's end", one(head(impl.TScope, 3), say(), say()), fault(4, 0, 0)},
		{"an empty block at the end", one(say(), head(impl.TIf, 0)), fault(0, 0, 0)},
		{"a block of one at the end", one(say(), head(impl.TIf, 1)), fault(4, 0, 1)},
		{"an empty block at the end of a block", one(head(impl.TTry, 1), head(impl.TLoop, 0), say()), fault(0, 0, 0)},
		{"a block that ends with the one around", one(head(impl.TTry, 2), head(impl.TLoop, 1), say(), say()), fault(0, 0, 0)},
		{"a block that ends behind the one around", one(head(impl.TTry, 2), head(impl.TLoop, 2), say(), say()), fault(4, 0, 1)},
		{"the body has room, the outer block none", one(head(impl.TTry, 4), head(impl.TLoop, 2), say(), head(impl.TIf, 1), say(), say()), fault(4, 0, 3)},
		{"behind a block that is over", one(head(impl.TTry, 1), say(), head(impl.TLoop, 2), say(), say()), fault(0, 0, 0)},
		{"behind a block that is over, too long", one(head(impl.TTry, 1), say(), head(impl.TLoop, 3), say(), say()), fault(4, 0, 2)},
		{"three ends at one step", one(head(impl.TTry, 3), head(impl.TIf, 2), head(impl.TLoop, 1), say(), say()), fault(0, 0, 0)},
		{"in a later body", plan(says(2), []impl.Step{say(), head(impl.TDefer, 1)}), fault(4, 1, 1)},
	})
}

func TestDeep(t *testing.T) {
	for _, op := range []int{impl.TTry, impl.TScope, impl.TDefer, impl.TLoop, impl.TIf} {
		check(t, []okCase{
			{"12 heads", one(nest(op, 12)...), fault(0, 0, 0)},
			{"13 heads", one(nest(op, 13)...), fault(5, 0, 12)},
			{"14 heads", one(nest(op, 14)...), fault(5, 0, 12)},
			{"a step in 12 blocks", one(nest(op, 12, say())...), fault(0, 0, 0)},
			{"a step, then a head in 12 blocks", one(nest(op, 12, say(), head(impl.TIf, 0))...), fault(5, 0, 13)},
			{"a head in 12 blocks that is too long", one(nest(op, 12, head(impl.TIf, 1))...), fault(4, 0, 12)},
			{"a head in 12 blocks that is very long", one(nest(op, 12, head(impl.TIf, greatest))...), fault(4, 0, 12)},
		})
	}
	var row []impl.Step
	for range 20 {
		row = append(row, nest(impl.TScope, 12, say())...)
	}
	check(t, []okCase{
		{"blocks beside each other", one(row...), fault(0, 0, 0)},
		{"20 empty blocks", one(make20(impl.TScope)...), fault(0, 0, 0)},
		{"20 empty blocks in 11", one(nest(impl.TScope, 11, make20(impl.TTry)...)...), fault(0, 0, 0)},
		{"20 empty blocks in 12", one(nest(impl.TScope, 12, make20(impl.TTry)...)...), fault(5, 0, 12)},
	})
}

func make20(op int) []impl.Step {
	var steps []impl.Step
	for range 20 {
		steps = append(steps, head(op, 0))
	}
	return steps
}

func TestReturns(t *testing.T) {
	back := impl.Step{Op: impl.TReturn}
	deep := append([]impl.Step{head(impl.TDefer, 12)}, nest(impl.TScope, 11, back)...)
	check(t, []okCase{
		{"in the body", one(back), fault(0, 0, 0)},
		{"in other blocks", one(head(impl.TTry, 4), head(impl.TScope, 3), head(impl.TLoop, 2), head(impl.TIf, 1), back), fault(0, 0, 0)},
		{"in a defer", one(head(impl.TDefer, 1), back), fault(6, 0, 1)},
		{"behind a defer", one(head(impl.TDefer, 1), say(), back), fault(0, 0, 0)},
		{"behind an empty defer", one(head(impl.TDefer, 0), back), fault(0, 0, 0)},
		{"behind an empty defer in a block", one(head(impl.TScope, 2), head(impl.TDefer, 0), back), fault(0, 0, 0)},
		{"far inside a defer", one(deep...), fault(6, 0, 12)},
		{"in a defer in a block", one(head(impl.TScope, 2), head(impl.TDefer, 1), back), fault(6, 0, 2)},
		{"behind a block in a defer", one(head(impl.TDefer, 3), head(impl.TScope, 1), say(), back), fault(6, 0, 3)},
		{"behind a defer in a defer", one(head(impl.TDefer, 3), head(impl.TDefer, 1), say(), back), fault(6, 0, 3)},
		{"behind a defer in a block", one(head(impl.TScope, 3), head(impl.TDefer, 1), say(), back), fault(0, 0, 0)},
		{"a throw in a defer", one(head(impl.TDefer, 1), impl.Step{Op: impl.TThrow}), fault(0, 0, 0)},
		{"the next body", plan([]impl.Step{head(impl.TDefer, 1), say()}, []impl.Step{back}), fault(0, 0, 0)},
		{"in a defer of the next body", plan([]impl.Step{back}, []impl.Step{say(), head(impl.TDefer, 1), back}), fault(6, 1, 2)},
	})
}

func TestOrder(t *testing.T) {
	wrong := impl.Step{}
	back := impl.Step{Op: impl.TReturn}
	long := []impl.Step{head(impl.TScope, 1)}
	deep := nest(impl.TScope, 13)
	late := []impl.Step{head(impl.TDefer, 1), back}
	many := impl.Plan{Bodies: make([]impl.Body, 31)}
	many.Bodies[0].Steps = make([]impl.Step, 301)
	check(t, []okCase{
		{"1 ahead of 2", many, fault(1, 0, 0)},
		{"2 ahead of 3", plan([]impl.Step{wrong}, make([]impl.Step, 301)), fault(2, 1, 0)},
		{"2 ahead of 4", plan(long, says(301)), fault(2, 1, 0)},
		{"3 ahead of 4", plan(long, []impl.Step{say(), wrong}), fault(3, 1, 1)},
		{"3 ahead of 5", plan(deep, []impl.Step{say(), wrong}), fault(3, 1, 1)},
		{"3 ahead of 6", plan(late, []impl.Step{say(), wrong}), fault(3, 1, 1)},
		{"3 ahead of 4 in one body", one(head(impl.TScope, 9), say(), wrong), fault(3, 0, 2)},
		{"3 by its body", plan(says(2), []impl.Step{say(), wrong}, []impl.Step{wrong}), fault(3, 1, 1)},
		{"3 by its step", one(say(), wrong, wrong), fault(3, 0, 1)},
		{"4, then 5 in a later body", plan(long, deep), fault(4, 0, 0)},
		{"5, then 4 in a later body", plan(deep, long), fault(5, 0, 12)},
		{"6, then 4 in a later body", plan(late, long), fault(6, 0, 1)},
		{"6, then 5 in a later body", plan(late, deep), fault(6, 0, 1)},
		{"5, then 6 in a later body", plan(deep, late), fault(5, 0, 12)},
		{"6, then 4 in one body", one(head(impl.TDefer, 1), back, head(impl.TIf, 1)), fault(6, 0, 1)},
		{"4, then 6 in one body", one(head(impl.TIf, 9), head(impl.TDefer, 1), back), fault(4, 0, 0)},
		{"5, then 4 in one body", one(append(deep, long...)...), fault(5, 0, 12)},
		{"6, then 5 in one body", one(append(late, deep...)...), fault(6, 0, 1)},
		{"4 at a defer ahead of 6 in it", one(head(impl.TDefer, 2), back), fault(4, 0, 0)},
		{"4 ahead of 5 at one step", one(nest(impl.TScope, 12, head(impl.TTry, 1))...), fault(4, 0, 12)},
	})
}

// TestSmallBodies holds PlanOk, at all bodies of up to five says, returns, defers and scopes, against the words of the document taken one by one.
func TestSmallBodies(t *testing.T) {
	kinds := []impl.Step{say(), {Op: impl.TReturn}}
	for size := range 5 {
		kinds = append(kinds, head(impl.TDefer, size), head(impl.TScope, size))
	}
	var grow func(steps []impl.Step)
	grow = func(steps []impl.Step) {
		if got, want := impl.PlanOk(one(steps...)), slowFault(steps); got != want {
			t.Fatalf("%v: %v, not %v", steps, got, want)
		}
		if len(steps) == 5 {
			return
		}
		for _, k := range kinds {
			grow(append(steps[:len(steps):len(steps)], k))
		}
	}
	grow(nil)
}

// slowFault looks for the blocks around a step anew at each step: all ahead of it are without fault, so the last one that reaches it is the innermost.
func slowFault(steps []impl.Step) impl.Fault {
	for s, step := range steps {
		end, deep, put := len(steps), 0, false
		for h, around := range steps[:s] {
			if s <= h+around.Size {
				end = h + around.Size + 1
				deep++
				put = put || around.Op == impl.TDefer
			}
		}
		switch {
		case s+1+step.Size > end:
			return fault(4, 0, s)
		case step.Op >= impl.TTry && deep >= 12:
			return fault(5, 0, s)
		case step.Op == impl.TReturn && put:
			return fault(6, 0, s)
		}
	}
	return fault(0, 0, 0)
}
