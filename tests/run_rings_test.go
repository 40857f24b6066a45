package tests

import (
	"strconv"
	"testing"

	"loop.example/thread/impl"
)

// chain is n tasks that each resume the next one; the last one does the step with the number of the target.
func chain(n, target int, step string) impl.Plan {
	bodies := []string{""}
	for k := 1; k <= n; k++ {
		bodies[0] += "new r2 body " + strconv.Itoa(k) + "; "
		next, do := k+1, "resume"
		if k == n {
			next, do = target, step
		}
		bodies = append(bodies, "set r1 "+strconv.Itoa(next)+"; "+do+" r0 r1; say r0; say r3")
	}
	bodies[0] += "set r1 1; resume r0 r1; say r0; say r3"
	return read(bodies...)
}

// wantChain: all get their turn, the ring is told by the last one, which fails; the one ahead of it gets the error, the others an end.
func wantChain(n, target int) impl.Report {
	want := impl.Report{Ticks: n + 2 + 2*n}
	add := func(kind, task, how int, num int64) {
		want.Recs = append(want.Recs, impl.Rec{Kind: kind, Task: task, How: how, Num: num})
	}
	for k := 1; k <= n; k++ {
		add(2, k, 1, 0)
	}
	for k := target; k <= n; k++ {
		add(5, n, 0, int64(k))
	}
	add(3, n, 0, -10)
	how, num, flag := 4, int64(-10), int64(0)
	for k := n - 1; k >= 0; k-- {
		add(2, k, how, 0)
		add(1, k, 0, num)
		add(1, k, 0, flag)
		want.Ticks += 2
		how, num, flag = 3, 0, 2
	}
	for range n + 1 {
		want.States = append(want.States, 4)
	}
	return want
}

func TestRings(t *testing.T) {
	for n := 1; n <= 20; n++ {
		for target := range n + 1 {
			for _, step := range []string{"resume", "giveup"} {
				got := impl.RunPlan(chain(n, target, step), most)
				if want := wantChain(n, target); !sameReport(got, want) {
					t.Errorf("%d tasks, %s of %d: %v, want %v", n, step, target, got, want)
				}
			}
		}
	}
	for _, n := range []int{1, 2, 5} {
		for target := range n + 1 {
			checkRun(t, chain(n, target, "resume"), wantChain(n, target))
		}
	}
}

func TestOtherRings(t *testing.T) {
	checkRuns(t, []runCase{
		{name: "the main task and itself", bodies: []string{"try r1 { resume r0 r0 } giveup r0 r0"}, recs: "0 ring 0, 0 throw -10, 0 catch -10, 0 ring 0, 0 throw -10", code: 1, num: -10, ticks: 3, states: []int{4}},
		{
			name:   "an error that is caught: the ring is told ahead of it, and all goes on",
			bodies: []string{"new r1 body 1; resume r0 r1; say r0", "try r2 { resume r0 r1 } say r2; yield r2"},
			recs:   "1 turn resume, 1 ring 0, 1 ring 1, 1 throw -10, 1 catch -10, 1 say -10, 0 turn yield, 0 say -10", ticks: 7, states: []int{4, 1},
		},
		{
			name:   "through one that gives up",
			bodies: []string{"new r1 body 1; resume r0 r1; giveup r0 r1; say r0; say r3", "new r1 body 2; defer { resume r0 r1; say r0 } yield r0", "set r1 1; try r2 { resume r0 r1 } set r1 0; giveup r0 r1"},
			recs: "1 turn resume, 0 turn yield, 1 turn giveup, 2 turn resume, 2 ring 1, 2 ring 2, 2 throw -10, 2 catch -10, " +
				"2 ring 0, 2 ring 1, 2 ring 2, 2 throw -10, 1 turn error, 1 say -10, 0 turn gone, 0 say 0, 0 say 1",
			ticks: 5 + 3 + 3 + 5, states: []int{4, 4, 4},
		},
		{
			name:   "in the order in which they wait, not in that of their numbers",
			bodies: []string{"new r0 body 1; new r1 body 2; new r2 body 3; resume r0 r2; say r0", "set r1 3; resume r0 r1", "set r1 1; resume r0 r1; say r0; say r3", "set r1 2; resume r0 r1"},
			recs: "3 turn resume, 2 turn resume, 1 turn resume, 1 ring 3, 1 ring 2, 1 ring 1, 1 throw -10, 2 turn error, 2 say -10, 2 say 0, " +
				"3 turn done, 0 turn done, 0 say 0", ticks: 5 + 2 + 4 + 2, states: []int{4, 4, 4, 4},
		},
		{
			name:   "one that waited behind its turn is in no ring",
			bodies: []string{"new r1 body 1; new r2 body 2; resume r0 r1; resume r0 r2; say r0", "yield r0; set r1 0; resume r0 r1", "set r1 1; resume r0 r1; say r0"},
			recs: "1 turn resume, 0 turn yield, 2 turn resume, 1 turn resume, 1 ring 0, 1 ring 2, 1 ring 1, 1 throw -10, 2 turn error, 2 say -10, " +
				"0 turn done, 0 say 0", ticks: 5 + 3 + 3, states: []int{4, 4, 4},
		},
	})
}
