package tests

import (
	"runtime"
	"sync"
	"testing"
	"time"

	"loop.example/thread/impl"
)

func manyPlans(n int) []impl.Plan {
	m := newMaker()
	var out []impl.Plan
	for range n {
		out = append(out, m.plan())
	}
	return out
}

func TestRunChangesNoPlan(t *testing.T) {
	for _, p := range manyPlans(200) {
		before := copyOf(p)
		impl.RunPlan(p, 500)
		if !samePlan(p, before) {
			t.Fatalf("the plan became %s", impl.WritePlan(p))
		}
	}
}

func TestRunsShareNothing(t *testing.T) {
	for _, p := range manyPlans(200) {
		x, y, keep := impl.RunPlan(p, 300), impl.RunPlan(p, 300), impl.RunPlan(p, 300)
		if !sameReport(x, y) || !sameReport(x, keep) {
			t.Fatalf("%s\nanswers %v, then %v, then %v", impl.WritePlan(p), x, y, keep)
		}
		spoil(x)
		if !sameReport(y, keep) || !sameReport(impl.RunPlan(p, 300), keep) {
			t.Fatalf("%s\nanswers share memory", impl.WritePlan(p))
		}
		_ = append(x.Recs, impl.Rec{Kind: 9})
		_ = append(x.States, 9)
		if !sameReport(y, keep) {
			t.Fatalf("%s\nanswers share memory behind their ends", impl.WritePlan(p))
		}
	}
}

func spoil(r impl.Report) {
	for i := range r.Recs {
		r.Recs[i] = impl.Rec{Kind: 9, Task: 9, How: 9, Num: 9}
	}
	for i := range r.States {
		r.States[i] = 9
	}
}

func TestRunsAtOneTime(t *testing.T) {
	p := read("new r1 body 1; set r2 50; loop r2 { add r0 r0 1; resume r0 r1 } return r0", "set r2 1000; loop r2 { add r0 r0 1; yield r0 }")
	want := impl.RunPlan(p, most)
	var wait sync.WaitGroup
	for range 20 {
		wait.Go(func() {
			if got := impl.RunPlan(p, most); !sameReport(got, want) {
				t.Errorf("beside others: %v, want %v", got, want)
			}
		})
	}
	wait.Wait()
}

// A goroutine that has told its end may need a moment to be gone.
func goroutines(most int) int {
	for range 2000 {
		if n := runtime.NumGoroutine(); n <= most {
			return n
		}
		time.Sleep(time.Millisecond)
	}
	return runtime.NumGoroutine()
}

// restless plans have tasks in every state when they end.
func restless() []impl.Plan {
	return []impl.Plan{
		read("set r1 59; loop r1 { new r2 body 1; resume r0 r2 }", "defer { say r0 } try r1 { yield r0 } say r0"),
		read("set r1 59; loop r1 { new r2 body 1 }", "say r0"),
		read("set r1 59; loop r1 { new r2 body 1; giveup r0 r2 }", "say r0"),
		read("set r1 59; loop r1 { new r2 body 1; resume r0 r2 } throw r1", "defer { yield r0 } throw r0"),
		read("new r1 body 1; resume r0 r1", "new r1 body 1; resume r0 r1"),
		read("new r1 body 1; resume r0 r1; giveup r0 r1", "defer { set r1 1; loop r1 { set r1 1 } } yield r0"),
	}
}

func TestNoGoroutineIsLeft(t *testing.T) {
	checkNoneLeft(t, func(p impl.Plan, ticks int) { impl.RunPlan(p, ticks) })
}

func checkNoneLeft(t *testing.T, call func(p impl.Plan, ticks int)) {
	t.Helper()
	before := runtime.NumGoroutine()
	for _, p := range append(restless(), manyPlans(100)...) {
		for _, ticks := range []int{0, 1, 7, 50, 120, most} {
			call(p, ticks)
			if n := goroutines(before); n > before {
				t.Fatalf("%s\nwith %d ticks: %d goroutines, %d before", impl.WritePlan(p), ticks, n, before)
			}
		}
	}
}

func TestGoroutinesEndAheadOfTheAnswer(t *testing.T) {
	checkEndAhead(t, func(p impl.Plan) { impl.RunPlan(p, most) })
}

// On one processor whoever ends a run's last goroutine is gone before the answer is seen; goroutines that are only let go of are not.
func checkEndAhead(t *testing.T, call func(p impl.Plan)) {
	t.Helper()
	defer runtime.GOMAXPROCS(runtime.GOMAXPROCS(1))
	p := read("set r1 59; loop r1 { new r2 body 1; resume r0 r2 }", "yield r0")
	before := runtime.NumGoroutine()
	const times = 40
	late := 0
	for range times {
		call(p)
		if runtime.NumGoroutine() > before {
			late++
		}
		goroutines(before)
	}
	if late > times/2 {
		t.Errorf("%d of %d answers came ahead of the end of all goroutines", late, times)
	}
}
