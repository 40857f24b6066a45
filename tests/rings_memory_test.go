package tests

import (
	"fmt"
	"slices"
	"sync"
	"testing"

	"loop.example/thread/impl"
)

// function is one that the document lists, with its answer as text, so that all of them can be held against the same things.
type function struct {
	name string
	call func(p impl.Plan, ticks int) string
}

func functions() []function {
	return []function{
		{"PlanOk", func(p impl.Plan, _ int) string { return fmt.Sprint(impl.PlanOk(p)) }},
		{"WritePlan", func(p impl.Plan, _ int) string { return impl.WritePlan(p) }},
		{"RunPlan", func(p impl.Plan, ticks int) string { return fmt.Sprint(impl.RunPlan(p, ticks)) }},
		{"StandAt", func(p impl.Plan, ticks int) string { return fmt.Sprint(impl.StandAt(p, ticks, 3)) }},
		{"EndOf", func(p impl.Plan, ticks int) string { return fmt.Sprint(impl.EndOf(p, ticks)) }},
		{"Rings", func(p impl.Plan, ticks int) string { return fmt.Sprint(impl.Rings(p, ticks)) }},
		{"Turns", func(p impl.Plan, ticks int) string { return fmt.Sprint(impl.Turns(p, ticks)) }},
		{"Answer", impl.Answer},
	}
}

// ringPlans have rings of several lengths, one behind the other and by several tasks.
func ringPlans() []impl.Plan {
	return []impl.Plan{
		chain(20, 0, "resume"),
		read("new r1 body 1; resume r0 r1", "set r2 9; loop r2 { try r0 { resume r0 r1 } }"),
		read("new r1 body 1; new r2 body 2; resume r0 r1; resume r0 r0", "set r1 2; resume r0 r1; set r1 0; giveup r0 r1", "set r1 1; try r0 { resume r0 r1 } set r1 0; resume r0 r1"),
	}
}

// roomy is a copy of a plan with room behind the end of each list, and something in it; withRoom shows all of that.
func roomy(p impl.Plan) impl.Plan {
	mark := impl.Step{Op: 77, A: 77, B: 77, N: 77, Size: 77}
	q := impl.Plan{Bodies: make([]impl.Body, 0, len(p.Bodies)+2)}
	for _, body := range p.Bodies {
		steps := append(slices.Clone(body.Steps), mark, mark)
		q.Bodies = append(q.Bodies, impl.Body{Steps: steps[:len(body.Steps)]})
	}
	_ = append(q.Bodies, impl.Body{Steps: []impl.Step{mark}}, impl.Body{})
	return q
}

func withRoom(p impl.Plan) impl.Plan {
	all := impl.Plan{Bodies: slices.Clone(p.Bodies[:cap(p.Bodies)])}
	for b, body := range all.Bodies {
		all.Bodies[b].Steps = slices.Clone(body.Steps[:cap(body.Steps)])
	}
	return all
}

func TestNoFunctionChangesAPlan(t *testing.T) {
	plans := slices.Concat(ringPlans(), restless(), manyPlans(60), wrongPlans())
	for _, f := range functions() {
		for _, p := range plans {
			q := roomy(p)
			before := withRoom(q)
			for _, ticks := range []int{-1, 0, 300, 5001} {
				f.call(q, ticks)
			}
			if !samePlan(q, p) || !samePlan(withRoom(q), before) {
				t.Fatalf("%s changed a plan into %v", f.name, withRoom(q))
			}
		}
	}
}

func TestEachFunctionAnswersTheSame(t *testing.T) {
	plans := slices.Concat(ringPlans(), restless(), manyPlans(60), wrongPlans())
	for _, ticks := range []int{-1, 0, 40, 300, 5001} {
		first := map[string][]string{}
		for _, f := range functions() {
			for _, p := range plans {
				first[f.name] = append(first[f.name], f.call(p, ticks))
			}
		}
		for _, f := range functions() {
			for i, p := range plans {
				if got := f.call(copyOf(p), ticks); got != first[f.name][i] {
					t.Fatalf("%s answers %s, then %s", f.name, first[f.name][i], got)
				}
			}
		}
	}
}

func copyOfRings(rings []impl.Ring) []impl.Ring {
	out := slices.Clone(rings)
	for i := range out {
		out[i].Tasks = slices.Clone(out[i].Tasks)
	}
	return out
}

func TestRingsShareNothing(t *testing.T) {
	for _, p := range append(ringPlans(), manyPlans(200)...) {
		x, y := impl.Rings(p, 300), impl.Rings(p, 300)
		keep := copyOfRings(x)
		if !sameRings(y, keep) {
			t.Fatalf("%s\nanswers %v, then %v", impl.WritePlan(p), keep, y)
		}
		spoilRings(t, x)
		if !sameRings(y, keep) || !sameRings(impl.Rings(p, 300), keep) {
			t.Fatalf("%s\nanswers share memory", impl.WritePlan(p))
		}
	}
}

// spoilRings writes into each list, and behind its end, and looks whether another one shows it.
func spoilRings(t *testing.T, rings []impl.Ring) {
	t.Helper()
	for i, ring := range rings {
		for j := range ring.Tasks {
			ring.Tasks[j] = i
		}
	}
	for _, ring := range rings {
		_ = append(ring.Tasks, -77)
	}
	for i, ring := range rings {
		for _, n := range ring.Tasks {
			if n != i {
				t.Fatalf("lists of one answer share memory: %v", rings)
			}
		}
	}
	clear(rings)
	_ = append(rings, impl.Ring{At: 9})
}

func TestTurnsShareNothing(t *testing.T) {
	for _, p := range append(ringPlans(), manyPlans(200)...) {
		x, y := impl.Turns(p, 300), impl.Turns(p, 300)
		keep := slices.Clone(x)
		if !slices.Equal(y, keep) {
			t.Fatalf("%s\nanswers %v, then %v", impl.WritePlan(p), keep, y)
		}
		for i := range x {
			x[i] = impl.Turn{Task: 9, How: 9, From: 9, To: 9}
		}
		_ = append(x, impl.Turn{Task: 9})
		if !slices.Equal(y, keep) || !slices.Equal(impl.Turns(p, 300), keep) {
			t.Fatalf("%s\nanswers share memory", impl.WritePlan(p))
		}
	}
}

func TestFunctionsAtOneTime(t *testing.T) {
	p := ringPlans()[1]
	for _, f := range functions() {
		want := f.call(p, most)
		var wait sync.WaitGroup
		for range 20 {
			wait.Go(func() {
				if got := f.call(p, most); got != want {
					t.Errorf("%s beside others: %s, want %s", f.name, got, want)
				}
			})
		}
		wait.Wait()
	}
}

func TestNoGoroutineIsLeftByAnyFunction(t *testing.T) {
	for _, f := range functions() {
		checkNoneLeft(t, func(p impl.Plan, ticks int) { f.call(p, ticks) })
	}
}

func TestGoroutinesEndAheadOfRingsTurnsAndAnswers(t *testing.T) {
	checkEndAhead(t, func(p impl.Plan) { impl.Rings(p, most) })
	checkEndAhead(t, func(p impl.Plan) { impl.Turns(p, most) })
	checkEndAhead(t, func(p impl.Plan) { impl.Answer(p, most) })
}
