package tests

import (
	"sync"
	"testing"

	"loop.example/thread/impl"
)

// standsOf is some stands of a run: its end, and those at its first, middle and last record.
func standsOf(p impl.Plan, ticks int) []impl.Stand {
	n := len(impl.RunPlan(p, ticks).Recs)
	out := []impl.Stand{impl.EndOf(p, ticks)}
	for _, k := range []int{0, n / 2, n - 1} {
		out = append(out, impl.StandAt(p, ticks, k))
	}
	return out
}

func TestStandsChangeNoPlan(t *testing.T) {
	for _, p := range manyPlans(100) {
		before := copyOf(p)
		standsOf(p, 500)
		if !samePlan(p, before) {
			t.Fatalf("the plan became %s", impl.WritePlan(p))
		}
	}
}

func TestStandsShareNothing(t *testing.T) {
	for _, p := range append(restless(), manyPlans(100)...) {
		xs, ys, keep := standsOf(p, 300), standsOf(p, 300), standsOf(p, 300)
		for i := range xs {
			if !sameStand(xs[i], keep[i]) || !sameStand(ys[i], keep[i]) {
				t.Fatalf("%s\nanswers %v, then %v", impl.WritePlan(p), xs[i], keep[i])
			}
			spoilStand(t, xs[i])
			if !sameStand(ys[i], keep[i]) {
				t.Fatalf("%s\nanswers share memory", impl.WritePlan(p))
			}
		}
		for i, again := range standsOf(p, 300) {
			if !sameStand(again, keep[i]) {
				t.Fatalf("%s\nanswers %v, then %v", impl.WritePlan(p), keep[i], again)
			}
		}
	}
}

// spoilStand writes into each list, and behind its end, and looks whether another one shows it.
func spoilStand(t *testing.T, s impl.Stand) {
	t.Helper()
	for i, v := range s.Tasks {
		for j := range v.Regs {
			v.Regs[j] = int64(i)
		}
	}
	for _, v := range s.Tasks {
		_ = append(v.Regs, -77)
	}
	for i, v := range s.Tasks {
		for _, n := range v.Regs {
			if n != int64(i) {
				t.Fatalf("lists of one answer share memory: %v", s)
			}
		}
	}
	clear(s.Tasks)
}

func TestStandsAtOneTime(t *testing.T) {
	p := read("new r1 body 1; set r2 50; loop r2 { add r0 r0 1; resume r0 r1 } return r0", "set r2 1000; loop r2 { add r0 r0 1; yield r0 }")
	wantAt, wantEnd := impl.StandAt(p, most, 60), impl.EndOf(p, most)
	var wait sync.WaitGroup
	for range 20 {
		wait.Go(func() {
			if got := impl.StandAt(p, most, 60); !sameStand(got, wantAt) {
				t.Errorf("beside others: %v, want %v", got, wantAt)
			}
			if got := impl.EndOf(p, most); !sameStand(got, wantEnd) {
				t.Errorf("beside others: %v, want %v", got, wantEnd)
			}
		})
	}
	wait.Wait()
}

func TestNoGoroutineIsLeftByStands(t *testing.T) {
	checkNoneLeft(t, func(p impl.Plan, ticks int) {
		impl.EndOf(p, ticks)
		for _, k := range []int{-1, 0, 2, greatest} {
			impl.StandAt(p, ticks, k)
		}
	})
}

func TestGoroutinesEndAheadOfStands(t *testing.T) {
	checkEndAhead(t, func(p impl.Plan) { impl.EndOf(p, most) })
	checkEndAhead(t, func(p impl.Plan) { impl.StandAt(p, most, 0) })
	checkEndAhead(t, func(p impl.Plan) { impl.StandAt(p, most, -1) })
}
